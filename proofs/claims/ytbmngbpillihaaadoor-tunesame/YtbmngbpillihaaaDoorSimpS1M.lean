/- What tune.fewer hands back, of alternatives. What tune.altOf hands back. What tune.simpler's walks ask for. What is made simpler, without where it lies. tune.simpler of a text. -/
import Derived.Test.YtbmngbpillihaaaDoorSimpAddA1P
import Derived.Test.YtbmngbpillihaaaDoorSimpAddA2P
import Derived.Test.YtbmngbpillihaaaDoorSimpEitherM
import Derived.Test.YtbmngbpillihaaaDoorSimpOnePM
import Derived.Test.YtbmngbpillihaaaDoorSimpEither2P
import Derived.Test.YtbmngbpillihaaaDoorSimpCatCM
import Derived.Test.YtbmngbpillihaaaDoorClone4M
namespace Go.Proofs.YtbmngbpillihaaaDoor
open Go.RowKit

set_option maxRecDepth 100000 in
set_option maxHeartbeats 4000000 in
theorem add_skipA (p : PT) (w : World) (B zs zO zj zo zi zl : Nat) (ov : Bool) (v : Value) (l : List PT) (h : FewAt w B zs zO zj zo zi zl 81 80 82 ov v l) (hst : (ov || isF p) = true) :
    Calls Tryd.prog 101 #[pv p, .pointer (some ⟨zs, 0, none⟩), .pointer (some ⟨zO, 0, none⟩), .pointer (some ⟨zj, 0, none⟩)] w (PutPost B zs zO zj zo zi zl 81 80 82 ov l w) := by
  have hb0 : Below w.heap.size w (w.alloc (.cells #[.int .i64 p.k, .string p.t, .int .i64 p.n, .string p.nm, .slice p.xa p.len p.cap] 24)) := (Below.refl _ _).alloc (Nat.le_refl _) _
  have cs := cell_later hb0 (box1_cell h.bs)
  have HST := hide (stays_alt p ov zo zi zl _ _ _ (row_below h.bo hb0) (row_below h.bi hb0) (row_below h.bl hb0))
  have HH := hide (And.intro (h.later hb0) (hb0.mono h.low.2.2))
  have HB := hide h.low.2.2
  unfold pv at HST ⊢
  unfold stV at cs
  clear h hb0
  rw [hst, if_pos rfl] at HST
  clear hst
  go_enter Tryd.func101, Tryd.ntmps101
  go_wp2_with fail
  refine (unhide HST).mono ?_
  rintro e w1 ⟨rfl, hb1, ho1⟩
  have HF := hide (And.intro ((unhide HH).1.over hb1 ho1) (below_butB (unhide HH).2 hb1 (unhide HB) (unhide HH).1.low.2.1))
  clear hb1 ho1 cs
  go_wp2_with fail
  go_end0
  with_reducible exact put_post (unhide HF).1 (unhide HF).2
theorem add_anyA (p : PT) (w : World) (B zs zO zj zo zi zl : Nat) (s : Bool × List PT) (v : Value) (h : FewAt w B zs zO zj zo zi zl 81 80 82 s.1 v s.2) (hl : s.2.length ≤ 100000) (hp : Fine5 p) (hf : ∀ x ∈ s.2, Fine5 x) :
    Calls Tryd.prog 101 #[pv p, .pointer (some ⟨zs, 0, none⟩), .pointer (some ⟨zO, 0, none⟩), .pointer (some ⟨zj, 0, none⟩)] w (PutPost B zs zO zj zo zi zl 81 80 82 (stp isA isF eitherP s p).1 (stp isA isF eitherP s p).2 w) := by
  obtain ⟨ov, l⟩ := s
  dsimp only at h hl hf
  unfold stp
  cases hst : (ov || isF p) with
  | true => rw [if_pos rfl]; exact add_skipA p w B zs zO zj zo zi zl ov v l h hst
  | false =>
    rw [if_neg (by decide)]
    dsimp only
    by_cases h0 : l.length = 0
    · have := add_nilA p w B zs zO zj zo zi zl ov v l h h0 hst
      rw [List.eq_nil_of_length_eq_zero h0] at this ⊢
      exact this
    · obtain ⟨x, hx, hx2⟩ := last_at (l := l) (by omega)
      have hxm : x ∈ l := List.mem_of_getElem? hx
      have hJ := fun W => either_any x p W (hf x hxm).1 hp.1
      unfold addP
      rw [hx2]
      dsimp only
      cases hy : eitherP x p with
      | none =>
        rw [hy] at hJ
        exact add_oneA p w B zs zO zj zo zi zl ov v l h x (by omega) hl hx hJ hst
      | some y =>
        rw [hy] at hJ
        dsimp only
        rw [← set_lastP l y (by omega)]
        exact add_joinA p w B zs zO zj zo zi zl ov v l h x (by omega) hl hx y hJ hst
def FewPostA (K : PT) (W0 : World) (e : Ending) (w' : World) : Prop := ∃ v, e = .returned v ∧ Row w' W0.heap.size 24 5 five v (fewP 19 isA isF eitherP K.lst) ∧ Below W0.heap.size W0 w'
theorem few_endA {K : PT} {W0 w' : World} {v : Value} {l : List PT} {ov : Bool} (h : (ov, l) = (flatK 19 K.lst).foldl (stp isA isF eitherP) (false, [])) (hr : Row w' W0.heap.size 24 5 five v l) (hb : Below W0.heap.size W0 w') : FewPostA K W0 (.returned v) w' :=
  ⟨v, rfl, by rw [few_fold, ← h]; exact hr, hb⟩
theorem flat_takeA (K : PT) {k : Nat} (hk : k < K.len) : flatK 19 (K.lst.take (k + 1)) = flatK 19 (K.lst.take k) ++ (if (K.kid k).k = 19 then (K.kid k).lst else [K.kid k]) := by
  have h := PT.lst_at hk
  have hl : k < K.lst.length := by rw [PT.lst_len]; exact hk
  have e : K.lst[k] = K.kid k := by rw [List.getElem?_eq_getElem hl] at h; exact Option.some.inj h
  unfold flatK
  rw [List.take_succ_eq_append_getElem hl, List.flatMap_append, e]
  simp
theorem mem_flatA (K : PT) {k : Nat} (hk : k < K.len) {x : PT} (h : x ∈ (if (K.kid k).k = 19 then (K.kid k).lst else [K.kid k])) : x ∈ flatK 19 K.lst := by
  unfold flatK
  rw [List.mem_flatMap]
  exact ⟨K.kid k, List.mem_of_getElem? (PT.lst_at hk), h⟩
set_option maxRecDepth 100000 in
set_option maxHeartbeats 4000000 in
theorem fewerA (K : PT) (W0 w : World) (zo zi zl : Nat) (hK : K.In W0) (hb : Below W0.heap.size W0 w) (hzo : W0.heap.size ≤ zo) (bo : w.heap[zo]? = some (box1 (.bool false) 4)) (bi : w.heap[zi]? = some (box1 (fnV 81) 36)) (bl : w.heap[zl]? = some (box1 (fnV 80) 36))
    (hc : (flatK 19 K.lst).length ≤ 90000) (hF : ∀ x ∈ flatK 19 K.lst, Fine5 x) :
    Calls Tryd.prog 76 #[.int .i64 19, .slice K.xa K.len K.cap, stV zo zi zl, fnV 82] w (FewPostA K W0) := by
  have hmax := hK.max
  unfold maxLen at hmax
  have HK := hide (And.intro hK (And.intro hb (And.intro hc hF)))
  have e1 : Below w.heap.size w (((w.alloc (box1 (stV zo zi zl) 36)).alloc (box1 (fnV 82) 108)).alloc (box1 (.slice none 0 0) 22)) := below3 w _ _ _
  have HS := hide (show FewAt (((w.alloc (box1 (stV zo zi zl) 36)).alloc (box1 (fnV 82) 108)).alloc (box1 (.slice none 0 0) 22)) W0.heap.size w.heap.size (w.heap.size + 1 + 1) (w.heap.size + 1) zo zi zl 81 80 82 false (.slice none 0 0) [] from
    ⟨at_old (by simp only [World.size_alloc]; omega) (at_old (by simp only [World.size_alloc]; omega) (at_new rfl)), at_new (by simp only [World.size_alloc]), at_old (by simp only [World.size_alloc]; omega) (at_new (by simp only [World.size_alloc])), row_below bo e1, row_below bi e1, row_below bl e1, World.ownsRow_nil _ _ _ 5, by have := hb.size; omega, hzo, by have := hb.size; simp only [World.size_alloc]; omega⟩)
  have HB := hide (hb.trans (e1.mono hb.size))
  unfold box1 stV fnV at HS HB
  unfold stV fnV
  clear hK hb hzo bo bi bl hc hF e1
  go_enter Tryd.func76, Tryd.ntmps76
  go_wp2_with fail
  generalize (((w.alloc (.cells #[.func (.func 102) #[] #[.pointer (some ⟨zo, 0, none⟩), .pointer (some ⟨zi, 0, none⟩), .pointer (some ⟨zl, 0, none⟩)]] 36)).alloc (.cells #[.func (.func 82) #[] #[]] 108)).alloc (.cells #[.slice none 0 0] 22)) = W1 at *
  generalize w.heap.size = N at *
  go_loopw [18] (fun x wr => ∃ (k : Nat) (s : Bool × List PT) (v : Value), k ≤ K.len ∧ x = .int .i64 (k : Int) ∧ Hid (FewAt wr W0.heap.size N (N + 1 + 1) (N + 1) zo zi zl 81 80 82 s.1 v s.2) ∧ Hid (Below W0.heap.size W0 wr) ∧ Hid (s = (flatK 19 (K.lst.take k)).foldl (stp isA isF eitherP) (false, [])) ∧ Hid (∀ x ∈ s.2, Fine5 x)) (fun x _ => K.len - (intOf x).toNat)
  case atStart => exact ⟨0, (false, []), .slice none 0 0, Nat.zero_le _, rfl, unhide HS, unhide HB, rfl, fun x hx => by cases hx⟩
  case round =>
    obtain ⟨k, s, v, hk, rfl, HF, HBr, HE, HFi⟩ := hrel
    rcases Nat.lt_or_ge k K.len with hlt | hge
    · have g1 : (k : Int) < (K.len : Int) := by omega
      obtain ⟨k0, k1, k2, k3, k4⟩ := (unhide HK).1.cells hlt
      have k0 := cell_later (unhide HBr) k0
      have k1 := cell_later (unhide HBr) k1
      have k2 := cell_later (unhide HBr) k2
      have k3 := cell_later (unhide HBr) k3
      have k4 := cell_later (unhide HBr) k4
      unfold PT.kv at k4
      have hia := kid_at (unhide HK).1 hlt
      have HFl := hide (flat_takeA K hlt)
      have HMem := hide (fun x => mem_flatA K hlt (x := x))
      have HTI := hide ((unhide HK).1.kids hlt)
      have HLn := hide (Nat.le_trans (flat_le 19 K.lst (k + 1)) (unhide HK).2.2.1)
      generalize K.kid k = T at *
      have HAl := hide ((Below.refl wr.heap.size wr).alloc (Nat.le_refl _) (.cells #[.int .i64 T.k, .string T.t, .int .i64 T.n, .string T.nm, .slice T.xa T.len T.cap] 24))
      by_cases hkk : T.k = 19
      · rw [if_pos hkk] at HFl HMem
        have q1 : (T.k != 19) = false := by rw [hkk]; rfl
        have hmaxT := (unhide HTI).max
        unfold maxLen at hmaxT
        clear hkk
        go_wp2_with fail
        have HF2 := hide ((unhide HF).later (unhide HAl))
        have HB2 := hide ((unhide HBr).trans ((unhide HAl).mono (unhide HBr).size))
        generalize wr.alloc (.cells #[.int .i64 T.k, .string T.t, .int .i64 T.n, .string T.nm, .slice T.xa T.len T.cap] 24) = wo at *
        clear HF HBr k0 k1 k2 k3 k4 hia HAl
        go_loopw [32] (fun y wr => ∃ (j : Nat) (s2 : Bool × List PT) (v2 : Value), j ≤ T.len ∧ y = .int .i64 (j : Int) ∧ Hid (FewAt wr W0.heap.size N (N + 1 + 1) (N + 1) zo zi zl 81 80 82 s2.1 v2 s2.2) ∧ Hid (Below W0.heap.size W0 wr) ∧ Hid (s2 = (flatK 19 (K.lst.take k) ++ T.lst.take j).foldl (stp isA isF eitherP) (false, [])) ∧ Hid (∀ x ∈ s2.2, Fine5 x)) (fun y _ => T.len - (intOf y).toNat)
        case atStart => exact ⟨0, s, v, Nat.zero_le _, rfl, HF2, HB2, by rw [List.take_zero, List.append_nil]; exact HE, HFi⟩
        case round =>
          obtain ⟨j, s2, v2, hj, rfl, HF3, HB3, HE3, HFi3⟩ := hrel
          rcases Nat.lt_or_ge j T.len with hjt | hjt
          · have g2 : (j : Int) < (T.len : Int) := by omega
            obtain ⟨k0, k1, k2, k3, k4⟩ := (unhide HTI).cells hjt
            have k0 := cell_later (unhide HB3) k0
            have k1 := cell_later (unhide HB3) k1
            have k2 := cell_later (unhide HB3) k2
            have k3 := cell_later (unhide HB3) k3
            have k4 := cell_later (unhide HB3) k4
            unfold PT.kv at k4
            have hia := kid_at (unhide HTI) hjt
            have hmem := PT.lst_at hjt
            have hlj : j < T.lst.length := by rw [PT.lst_len]; exact hjt
            have hgj : T.lst[j] = T.kid j := by rw [List.getElem?_eq_getElem hlj] at hmem; exact Option.some.inj hmem
            have HN3 := hide (show stp isA isF eitherP s2 (T.kid j) = (flatK 19 (K.lst.take k) ++ T.lst.take (j + 1)).foldl (stp isA isF eitherP) (false, []) by rw [List.take_succ_eq_append_getElem hlj, ← List.append_assoc, List.foldl_append, ← unhide HE3, hgj]; rfl)
            have hsl : s2.2.length ≤ 90000 := by
              have h1 := fold_len isA isF eitherP (flatK 19 (K.lst.take k) ++ T.lst.take j) (false, [])
              rw [← unhide HE3] at h1
              have h2 := unhide HLn
              rw [unhide HFl] at h2
              simp only [List.length_append, List.length_take, List.length_nil] at h1 h2
              omega
            have hfk : Fine5 (T.kid j) := (unhide HK).2.2.2 _ (unhide HMem _ (by rw [← hgj]; exact List.getElem_mem hlj))
            have HC := hide (add_anyA (T.kid j) _ _ _ _ _ _ _ _ s2 v2 ((unhide HF3).later ((Below.refl wr.heap.size wr).alloc (Nat.le_refl _) (.cells #[.int .i64 (T.kid j).k, .string (T.kid j).t, .int .i64 (T.kid j).n, .string (T.kid j).nm, .slice (T.kid j).xa (T.kid j).len (T.kid j).cap] 24))) (by omega) hfk (unhide HFi3))
            have HFi4 := hide (stp_fine (last := isA) (idle := isF) (join := eitherP) either_fine (unhide HFi3) hfk)
            have HAl2 := hide ((Below.refl wr.heap.size wr).alloc (Nat.le_refl _) (.cells #[.int .i64 (T.kid j).k, .string (T.kid j).t, .int .i64 (T.kid j).n, .string (T.kid j).nm, .slice (T.kid j).xa (T.kid j).len (T.kid j).cap] 24))
            clear hmem hgj hsl hfk
            generalize T.kid j = P at *
            unfold pv at HC
            go_wp2_with fail
            refine (unhide HC).mono ?_
            rintro e w3 ⟨rfl, v3, hf3, hb3⟩
            have HF5 := hide hf3
            have HB5 := hide (bel_trans3 (unhide HB3) (unhide HAl2) hb3)
            clear hf3 hb3 k0 k1 k2 k3 k4 hia
            go_wp2_with fail
            exact ⟨⟨j + 1, _, v3, by omega, rfl, HF5, HB5, HN3, HFi4⟩, by simp [intOf]; omega⟩
          · obtain rfl : j = T.len := by omega
            have HE4 := hide (show s2 = (flatK 19 (K.lst.take (k + 1))).foldl (stp isA isF eitherP) (false, []) by rw [unhide HFl, unhide HE3, ← PT.lst_len, List.take_length])
            go_wp2_with fail
            exact ⟨⟨k + 1, s2, v2, by omega, rfl, HF3, HB3, HE4, HFi3⟩, by simp [intOf]; omega⟩
      · rw [if_neg hkk] at HFl HMem
        have q1 : (T.k != 19) = true := by rw [bne_iff_ne]; exact hkk
        have HN3 := hide (show stp isA isF eitherP s T = (flatK 19 (K.lst.take (k + 1))).foldl (stp isA isF eitherP) (false, []) by rw [unhide HFl, List.foldl_append, ← unhide HE]; rfl)
        have hsl : s.2.length ≤ 90000 := by
          have h1 := fold_len isA isF eitherP (flatK 19 (K.lst.take k)) (false, [])
          rw [← unhide HE] at h1
          have h2 := unhide HLn
          rw [unhide HFl] at h2
          simp only [List.length_append, List.length_nil, List.length_cons] at h1 h2
          omega
        have hfk : Fine5 T := (unhide HK).2.2.2 _ (unhide HMem _ (List.mem_singleton.2 rfl))
        have HC := hide (add_anyA T _ _ _ _ _ _ _ _ s v ((unhide HF).later (unhide HAl)) (by omega) hfk (unhide HFi))
        have HFi4 := hide (stp_fine (last := isA) (idle := isF) (join := eitherP) either_fine (unhide HFi) hfk)
        clear hsl hfk hkk
        unfold pv at HC
        go_wp2_with fail
        refine (unhide HC).mono ?_
        rintro e w3 ⟨rfl, v3, hf3, hb3⟩
        have HF5 := hide hf3
        have HB5 := hide (bel_trans3 (unhide HBr) (unhide HAl) hb3)
        clear hf3 hb3 k0 k1 k2 k3 k4 hia
        go_wp2_with fail
        exact ⟨⟨k + 1, _, v3, by omega, rfl, HF5, HB5, HN3, HFi4⟩, by simp [intOf]; omega⟩
    · obtain rfl : k = K.len := by omega
      have cO := box1_cell (unhide HF).bO
      have HE4 := hide (show (s.1, s.2) = (flatK 19 K.lst).foldl (stp isA isF eitherP) (false, []) by have h := unhide HE; rw [← PT.lst_len, List.take_length] at h; exact h)
      go_wp2_with fail
      go_ret
      exact few_endA (unhide HE4) (unhide HF).row (unhide HBr)
end Go.Proofs.YtbmngbpillihaaaDoor

namespace Go.Proofs.YtbmngbpillihaaaDoor
open Go.RowKit

theorem few_inA {K : PT} (hF : ∀ x ∈ flatK 19 K.lst, Fine5 x) : ∀ x ∈ fewP 19 isA isF eitherP K.lst, Fine5 x ∧ ∀ X : World, (∀ y ∈ flatK 19 K.lst, y.In X) → x.In X :=
  few_all (P := fun x => Fine5 x ∧ ∀ X : World, (∀ y ∈ flatK 19 K.lst, y.In X) → x.In X) (fun a b y ha hb h => ⟨either_fine a b y ha.1 hb.1 h, fun X _ => either_in X a b y h⟩) (fun x hx => ⟨hF x hx, fun _ hX => hX x hx⟩)
set_option maxRecDepth 100000 in
set_option maxHeartbeats 2000000 in
theorem catOfA (K : PT) (w : World) (hK : K.In w) (hc : (flatK 19 K.lst).length ≤ 90000) (hF : ∀ x ∈ flatK 19 K.lst, Fine5 x) : Calls Tryd.prog 47 #[.slice K.xa K.len K.cap] w fun e w' => GivesP (flatK 19 K.lst) (altP K.lst) w e w' := by
  have hb0 : Below w.heap.size w (w.alloc (.cells zeroP 24)) := (Below.refl _ _).alloc (Nat.le_refl _) _
  have hz0 : (w.alloc (.cells zeroP 24)).heap[w.heap.size]? = some (.cells zeroP 24 (0, 0)) := at_new rfl
  have hs0 : (w.alloc (.cells zeroP 24)).heap.size = w.heap.size + 1 := World.size_alloc _ _
  have HFew := hide (fun w1 zo zi zl => fewerA K (w.alloc (.cells zeroP 24)) w1 zo zi zl (PT.In.later hb0 hK))
  have HIn := hide (few_inA hF)
  have HCF := hide (And.intro hc hF)
  unfold zeroP leafO at hb0 hz0 hs0 HFew
  have H0 := hide (And.intro hb0 (And.intro hz0 hs0))
  clear hK hc hF hb0 hz0 hs0
  go_enter Tryd.func47, Tryd.ntmps47
  go_wp2_with fail
  generalize w.alloc (.cells #[.int .i64 0, .string ⟨#[]⟩, .int .i64 0, .string ⟨#[]⟩, .slice none 0 0] 24) = w0 at *
  refine (upTo_any 80 81 w0).mono ?_
  rintro e w1 ⟨rfl, b1, b2, b3, hb1⟩
  have HC := hide (unhide HFew w1 _ _ _ hb1 (by omega) b1 b2 b3 (unhide HCF).1 (unhide HCF).2)
  clear b1 b2 b3 hb1 HFew
  unfold stV fnV at HC
  unfold stV
  go_wp2_with fail
  refine (unhide HC).mono ?_
  rintro e w2 ⟨v, rfl, hr2, hb2⟩
  have HR2 := hide (And.intro hr2 hb2)
  clear hr2 hb2 HC
  go_wp2_with fail
  refine (oneOrMore_any 19 v _ (mkP 15 ⟨#[]⟩ 0 ⟨#[]⟩ []) _ w2 (unhide HR2).1).mono ?_
  rintro e w4 ⟨⟨U, rfl, hU⟩, hb4⟩
  have hbz := bnext (unhide HR2).2 hb4
  have hrow := (unhide HR2).1.later hb4
  have gz := row_below (unhide H0).2.1 hbz
  have HE := hide (cat_end (F := flatK 19 K.lst) (S := altP K.lst) (unhide HIn) hU (fun X => leaf_in X (by decide) (by decide) (by unfold maxLen; decide)) rfl hrow (bnext (unhide H0).1 hbz) (unhide H0).2.2)
  clear hb4 hbz hrow hU
  unfold pv
  go_wp2_with (first
    | (refine wpList_store_row rfl 24 _ _ rfl w.heap.size (patO U) rfl rfl 24 zeroP gz size_pat rfl (patO_oneC U) ?_)
    | fail)
  exact bodyPost_ret (results_cell_row rfl _ _ w.heap.size 24 (patO U) (0, 0) _ rfl (setRow_heap _ _ _ _ _ _ gz) Tryd.underlying24 rfl size_pat) rfl (unhide HE)
end Go.Proofs.YtbmngbpillihaaaDoor

namespace Go.Proofs.YtbmngbpillihaaaDoor
open Go.RowKit
def SimpIH (T : PT) : Prop := ∀ j, j < T.len → ∀ W : World, (T.kid j).In W → Calls Tryd.prog 21 #[pv (T.kid j)] W fun e w' => GivesP [] (T.kid j).simp W e w'
theorem bnext2 {w a b : World} (h : Below w.heap.size w a) (k : Below a.heap.size a b) : Below w.heap.size w b := h.trans (k.mono h.size)
theorem five_cell {w : World} {T : PT} : ∀ k u, (five T)[k]? = some u → (w.alloc (.cells (patO T) 24)).cell? ⟨w.heap.size, k, none⟩ = some u := by
  intro k u h
  rw [cell_of_row _ _ _ _ _ _ (at_new rfl)]
  exact (show (five T).toArray[k]? = some u by rw [List.getElem?_toArray]; exact h)
theorem setRow_size (w : World) (g : Nat) (cs : Array Value) : (w.setRow g cs).heap.size = w.heap.size := by unfold World.setRow; exact Array.size_modify
theorem gives_leafS {S U : PT} {w W : World} (hU : ∀ X, U.In X) (hc : U = S) (hb : Below w.heap.size w W) : GivesP [] S w (.returned (pv U)) W := ⟨U, rfl, fun X _ _ => hU X, by rw [hc], hb⟩
theorem cntP_in (X : World) {k n : Int} (hk : -9223372036854775808 ≤ k ∧ k ≤ 9223372036854775807) (hn : 0 ≤ n ∧ n ≤ 65536) : (cntP k n).In X := by
  unfold cntP
  split
  · exact leaf_in X (by decide) (by decide) (by unfold maxLen; decide)
  · split
    · exact leaf_in X (by decide) (by decide) (by unfold maxLen; decide)
    · exact leaf_in X hk (by omega) (by unfold maxLen; decide)
theorem zr_cells {w : World} {g : Nat} (h : w.heap[g]? = some (.cells zeroP 24 (0, 0))) : w.cell? ⟨g, 0, none⟩ = some (.int .i64 0) ∧ w.cell? ⟨g, 1, none⟩ = some (.string ⟨#[]⟩) ∧ w.cell? ⟨g, 2, none⟩ = some (.int .i64 0) ∧ w.cell? ⟨g, 3, none⟩ = some (.string ⟨#[]⟩) ∧ w.cell? ⟨g, 4, none⟩ = some (.slice none 0 0) ∧ ∀ o, w.frozen? ⟨g, o, none⟩ = false :=
  ⟨(cell_of_row _ _ 0 _ _ _ h).trans rfl, (cell_of_row _ _ 1 _ _ _ h).trans rfl, (cell_of_row _ _ 2 _ _ _ h).trans rfl, (cell_of_row _ _ 3 _ _ _ h).trans rfl, (cell_of_row _ _ 4 _ _ _ h).trans rfl, fun o => frozen_of_row _ _ o _ _ h⟩
theorem gives_kids {S K U : PT} {w wr w'' : World} (hK : ∀ X : World, (∀ i, w.heap.size + 2 ≤ i → i < wr.heap.size → X.heap[i]? = wr.heap[i]?) → K.In X) (hU : ∀ X : World, K.In X → U.In X) (hc : U.can = S.can) (hs : wr.heap.size ≤ w''.heap.size) (hw : ∀ i, w.heap.size + 2 ≤ i → i < wr.heap.size → w''.heap[i]? = wr.heap[i]?) (hb : Below w.heap.size w w'') : GivesP [] S w (.returned (pv U)) w'' :=
  ⟨U, rfl, fun X _ hX => hU X (hK X fun i a b => (hX i (by omega) (by omega)).trans (hw i a b)), hc, hb⟩
end Go.Proofs.YtbmngbpillihaaaDoor

namespace Go.Proofs.YtbmngbpillihaaaDoor
open Go.RowKit

section
variable {last idle : PT → Bool} {join : PT → PT → Option PT}
theorem stay_can (hl : ∀ x : PT, last x.can = last x) (hi : ∀ x : PT, idle x.can = idle x) : ∀ (l : List PT) (ov : Bool), stay last idle ov (l.map PT.can) = (stay last idle ov l).map PT.can
  | [], ov => by cases ov <;> rfl
  | p :: l, true => stay_can hl hi l true
  | p :: l, false => by
    show (if idle p.can then stay last idle false (l.map PT.can) else p.can :: stay last idle (last p.can) (l.map PT.can)) = (if idle p then stay last idle false l else p :: stay last idle (last p) l).map PT.can
    rw [hi, hl, stay_can hl hi l, stay_can hl hi l]
    cases idle p <;> rfl
theorem add_can (hj : ∀ a b : PT, join a.can b.can = (join a b).map PT.can) (out : List PT) (p : PT) : addP join (out.map PT.can) p.can = (addP join out p).map PT.can := by
  unfold addP
  rw [List.getLast?_map]
  cases out.getLast? with
  | none => rfl
  | some x =>
    show (match join x.can p.can with | some y => (out.map PT.can).dropLast ++ [y] | none => out.map PT.can ++ [p.can]) = (match join x p with | some y => out.dropLast ++ [y] | none => out ++ [p]).map PT.can
    rw [hj]
    cases join x p with
    | none => simp
    | some y => simp [List.map_dropLast]
theorem fold_can (hj : ∀ a b : PT, join a.can b.can = (join a b).map PT.can) : ∀ L out : List PT, (L.map PT.can).foldl (addP join) (out.map PT.can) = (L.foldl (addP join) out).map PT.can
  | [], _ => rfl
  | p :: L, out => by
    show (L.map PT.can).foldl (addP join) (addP join (out.map PT.can) p.can) = _
    rw [add_can hj, fold_can hj L]; rfl
theorem flat_can (k : Int) (l : List PT) : flatK k (l.map PT.can) = (flatK k l).map PT.can := by
  unfold flatK
  rw [List.flatMap_map, List.map_flatMap]
  congr 1
  funext p
  rw [can_k, can_lst]
  split <;> rfl
theorem few_can (k : Int) (hl : ∀ x : PT, last x.can = last x) (hi : ∀ x : PT, idle x.can = idle x) (hj : ∀ a b : PT, join a.can b.can = (join a b).map PT.can) (l : List PT) : fewP k last idle join (l.map PT.can) = (fewP k last idle join l).map PT.can := by
  unfold fewP
  rw [flat_can, stay_can hl hi]
  exact fold_can hj _ []
end
theorem mkP_can (k : Int) (t : ByteArray) (n : Int) (nm : ByteArray) (l : List PT) : (mkP k t n nm l).can = mkP k t n nm (l.map PT.can) := by rw [PT.can_eq, mkP_lst]; rfl
theorem one_can (k : Int) (l : List PT) (z : PT) : (oneOrP k l z).can = oneOrP k (l.map PT.can) z.can := by
  match l with
  | [] => rfl
  | [x] => rfl
  | x :: y :: l => exact mkP_can _ _ _ _ _
theorem isE_can (x : PT) : isE x.can = isE x := by unfold isE; rw [can_k, can_t]
theorem isF_can (x : PT) : isF x.can = isF x := by unfold isF; rw [can_k]
theorem isA_can (x : PT) : isA x.can = isA x := by unfold isA; rw [can_k]
theorem nev_can (x : PT) : nev x.can = nev x := by unfold nev; rw [isF_can, isA_can]
theorem oneB_can (x : PT) : oneB x.can = oneB x := by unfold oneB; rw [can_k, can_t]
theorem any_can (p : Nat → Bool) : (anyP p).can = anyP p := by
  unfold anyP
  split
  · exact mkP_can _ _ _ _ _
  · exact mkP_can _ _ _ _ _
theorem cnt_can (k n : Int) : (cntP k n).can = cntP k n := by
  unfold cntP
  split
  · exact mkP_can _ _ _ _ _
  · split
    · exact mkP_can _ _ _ _ _
    · exact mkP_can _ _ _ _ _
theorem behind_can (a b : PT) : behindP a.can b.can = (behindP a b).map PT.can := by
  unfold behindP
  rw [can_k, can_k, can_t, can_t, can_n, can_n]
  split
  · rfl
  · split
    · exact congrArg some (mkP_can 1 _ 0 ⟨#[]⟩ []).symm
    · split
      · exact congrArg some (cnt_can 2 _).symm
      · rfl
theorem either_can (a b : PT) : eitherP a.can b.can = (eitherP a b).map PT.can := by
  unfold eitherP
  rw [oneB_can, oneB_can, can_t, can_t]
  split
  · rfl
  · split
    · exact congrArg some (any_can _).symm
    · rfl
theorem cat_can (l : List PT) : (catP l).can = catP (l.map PT.can) := by
  unfold catP
  rw [one_can, few_can 18 nev_can isE_can behind_can]; exact congrArg _ (mkP_can 1 ⟨#[]⟩ 0 ⟨#[]⟩ [])
theorem alt_can (l : List PT) : (altP l).can = altP (l.map PT.can) := by
  unfold altP
  rw [one_can, few_can 19 isA_can isF_can either_can]; exact congrArg _ (mkP_can 15 ⟨#[]⟩ 0 ⟨#[]⟩ [])
theorem getD_can {l : List PT} (h : 0 < l.length) : (l.map PT.can).getD 0 PT.nul = (l.getD 0 PT.nul).can := by
  match l, h with
  | x :: l, _ => rfl
theorem arb_can {l : List PT} (h : 0 < l.length) : (arbP l).can = arbP (l.map PT.can) := by
  unfold arbP
  rw [getD_can h, isF_can, isE_can, can_k, can_n]
  split
  · exact mkP_can _ _ _ _ _
  · split
    · exact mkP_can _ _ _ _ _
    · exact mkP_can _ _ _ _ _
theorem Smp_can : ∀ U : PT, U.Smp → U.can = U := mem_lst_ind fun U ih h => by
  obtain ⟨hN, hk⟩ := (Smp_iff U).1 h
  rw [PT.can_eq]
  have : U.lst.map PT.can = U.lst := by
    conv => rhs; rw [← List.map_id U.lst]
    exact List.map_congr_left fun x hx => ih x hx (hk x hx)
  rw [this]
  exact hN.eq.symm
end Go.Proofs.YtbmngbpillihaaaDoor

namespace Go.Proofs.YtbmngbpillihaaaDoor
open Go.RowKit

set_option maxRecDepth 100000 in
set_option maxHeartbeats 4000000 in
theorem simp_k1 (T : PT) (q : T.k = 1) (w : World) (hT : T.In w) (hn : T.len ≤ 100000) (ih : SimpIH T) (ht : T.t.size ≤ 65536) (hS : T.simp = litP T.t) :
    Calls Tryd.prog 21 #[pv T] w fun e w' => GivesP [] T.simp w e w' := by
  have hb0 : Below w.heap.size w ((w.alloc (.cells #[.int .i64 T.k, .string T.t, .int .i64 T.n, .string T.nm, .slice T.xa T.len T.cap] 24)).alloc (.cells #[.int .i64 0, .string ⟨#[]⟩, .int .i64 0, .string ⟨#[]⟩, .slice none 0 0] 24)) := ((Below.refl _ _).alloc (Nat.le_refl _) _).alloc (by simp) _
  have gb : ((w.alloc (.cells #[.int .i64 T.k, .string T.t, .int .i64 T.n, .string T.nm, .slice T.xa T.len T.cap] 24)).alloc (.cells #[.int .i64 0, .string ⟨#[]⟩, .int .i64 0, .string ⟨#[]⟩, .slice none 0 0] 24)).heap[w.heap.size]? = some (.cells #[.int .i64 T.k, .string T.t, .int .i64 T.n, .string T.nm, .slice T.xa T.len T.cap] 24 (0, 0)) := at_old (by simp) (at_new rfl)
  have gz : ((w.alloc (.cells #[.int .i64 T.k, .string T.t, .int .i64 T.n, .string T.nm, .slice T.xa T.len T.cap] 24)).alloc (.cells #[.int .i64 0, .string ⟨#[]⟩, .int .i64 0, .string ⟨#[]⟩, .slice none 0 0] 24)).heap[w.heap.size + 1]? = some (.cells zeroP 24 (0, 0)) := at_new (by simp)
  have hs1 : ((w.alloc (.cells #[.int .i64 T.k, .string T.t, .int .i64 T.n, .string T.nm, .slice T.xa T.len T.cap] 24)).alloc (.cells #[.int .i64 0, .string ⟨#[]⟩, .int .i64 0, .string ⟨#[]⟩, .slice none 0 0] 24)).heap.size = w.heap.size + 2 := by simp
  have H0 := hide (And.intro hb0 (And.intro gb (And.intro gz hs1)))
  have HT := hide hT
  have HI := hide info_pat
  have IH := hide ih
  have HS := hide (And.intro ht hS)
  clear ht hS
  have hmax := hT.max
  unfold maxLen at hmax
  obtain ⟨y0, y1, y2, y3, y4⟩ := pats5s gb
  unfold pv
  have HQ := hide q
  clear hb0 gb gz hs1 hT ih q
  go_enter Tryd.func21, Tryd.ntmps21
  go_wp2_with fail
  generalize ((w.alloc (.cells #[.int .i64 T.k, .string T.t, .int .i64 T.n, .string T.nm, .slice T.xa T.len T.cap] 24)).alloc (.cells #[.int .i64 0, .string ⟨#[]⟩, .int .i64 0, .string ⟨#[]⟩, .slice none 0 0] 24)) = W1 at *
  clear y0 y1 y2 y3 y4
  go_loopw [3, 10] (fun v x wr => ∃ (k : Nat) (Us : List PT), k ≤ T.len ∧ x = .int .i64 (k : Int) ∧ Us.length = k ∧ Hid (KidsAt wr (w.heap.size + 2) v Us) ∧ Hid (Below W1.heap.size W1 wr) ∧ Hid (Us.map PT.can = (T.lst.take k).map fun x => x.simp.can)) (fun _ x _ => T.len - (intOf x).toNat)
  case atStart => exact ⟨0, [], Nat.zero_le _, rfl, rfl, KidsAt.nil _ _, Below.refl _ _, rfl⟩
  case round =>
    obtain ⟨k, Us, hk, rfl, hul, HKd, HBr, HE⟩ := hrel
    rcases Nat.lt_or_ge k T.len with hlt | hge
    · have g1 : (k : Int) < (T.len : Int) := by omega
      have HBw := hide (bnext2 (unhide H0).1 (unhide HBr))
      obtain ⟨k0, k1, k2, k3, k4⟩ := (unhide HT).cells hlt
      have k0 := cell_later (unhide HBw) k0
      have k1 := cell_later (unhide HBw) k1
      have k2 := cell_later (unhide HBw) k2
      have k3 := cell_later (unhide HBw) k3
      have k4 := cell_later (unhide HBw) k4
      unfold PT.kv at k4
      have hia := kid_at (unhide HT) hlt
      have HTI := hide ((unhide HT).kids hlt)
      have HC := hide (fun W h => unhide IH k hlt W h)
      have hlk : k < T.lst.length := by rw [PT.lst_len]; exact hlt
      have HE2 := hide (show (T.lst.take (k + 1)).map (fun x => x.simp.can) = Us.map PT.can ++ [(T.kid k).simp.can] by
        have hgk : T.lst[k] = T.kid k := by have h := PT.lst_at hlt; rw [List.getElem?_eq_getElem hlk] at h; exact Option.some.inj h
        rw [List.take_succ_eq_append_getElem hlk, List.map_append, ← unhide HE, hgk]; rfl)
      generalize T.kid k = P at *
      unfold pv at HC
      have HAl := hide ((Below.refl wr.heap.size wr).alloc (Nat.le_refl _) (.cells #[.int .i64 P.k, .string P.t, .int .i64 P.n, .string P.nm, .slice P.xa P.len P.cap] 24))
      clear hlk
      go_wp2_with fail
      refine (unhide HC _ (PT.In.later (unhide HAl) (PT.In.later (unhide HBw) (unhide HTI)))).mono ?_
      rintro e w3 ⟨U, rfl, hU, hUc, hb3⟩
      have HK3 := hide ((unhide HKd).later (unhide HAl))
      have HUU := hide (And.intro (fun X => hU X (fun x hx => by cases hx)) (And.intro hUc hb3))
      have HB3 := hide (bnext2 (bnext2 (unhide HBr) (unhide HAl)) hb3)
      have HB0 := hide (show w.heap.size + 2 ≤ wr.heap.size from (unhide H0).2.2.2 ▸ (unhide HBr).size)
      clear hU hUc hb3 k0 k1 k2 k3 k4 hia
      unfold pv
      go_wp2_with (at_builtin; refine wpList_row Tryd.underlying22 (unhide HI) rfl (by decide) (by decide) five_len five_one rfl _ _ rfl (row_allocP ((unhide HK3).later (unhide HUU).2.2).row _) (by have := unhide HB0; have := (unhide HAl).size; have := (unhide HUU).2.2.size; rw [World.size_alloc]; omega) U w3.heap.size 1 rfl rfl (by exact five_cell) (by omega) ?_; intro v' w4 hrow hgrow hown)
      have HK5 := hide ((unhide HK3).put (by have := unhide HB0; have := (unhide HAl).size; omega) (unhide HUU).2.2 (unhide HUU).1 ((Below.refl _ _).alloc (Nat.le_refl _) _) hrow hgrow hown)
      have HB5 := hide (below_grown ((unhide HB3).alloc (unhide HB3).size _) (e := 24) (sz := 5) (f := five) (l := Us) (by rw [(unhide H0).2.2.2]; exact row_allocP ((unhide HK3).later (unhide HUU).2.2).row _) (Nat.le_refl _) hgrow)
      clear hrow hgrow hown
      go_wp2_with fail
      exact ⟨⟨k + 1, Us ++ [U], by omega, rfl, by simp; omega, HK5, HB5, by show _ = _; rw [List.map_append, unhide HE2, List.map_cons, (unhide HUU).2.1]; rfl⟩, by simp [intOf]; omega⟩
    · obtain rfl : k = T.len := by omega
      have g1 : ¬ (T.len : Int) < (T.len : Int) := by omega
      have HE2 := hide (show Us.map PT.can = T.lst.map (fun x => x.simp.can) by rw [unhide HE, ← PT.lst_len, List.take_length])
      obtain ⟨K, hv, hKl, hKi⟩ := (unhide HKd).pt
      subst hv
      have HKK := hide (And.intro hKl hKi)
      have gb := row_below (unhide H0).2.1 (unhide HBr)
      have gz := row_below (unhide H0).2.2.1 (unhide HBr)
      have HBw := hide (bnext2 (unhide H0).1 (unhide HBr))
      have HB0 := hide (show w.heap.size + 2 ≤ wr.heap.size from (unhide H0).2.2.2 ▸ (unhide HBr).size)
      obtain ⟨y0, y1, y2, y3, y4⟩ := pats5s gb
      have HG := hide (And.intro gb gz)
      clear hKl hKi gb gz hk hul HE HKd H0 HBr IH HT
      have q := unhide HQ
      rw [q] at y0
      go_wp2_with fail
      refine (clone_any T.t _ (by have := (unhide HS).1; omega)).mono ?_
      rintro e w4 ⟨rfl, hb4⟩
      have g4 := row_below (unhide HG).2 hb4
      have HB4 := hide (bnext (unhide HBw) hb4)
      clear hb4 y0 y1 y2 y3 y4
      go_wp2_with fail
      refine (literalS T.t _).mono ?_
      rintro e w5 ⟨rfl, hb5⟩
      have g5 := row_below g4 hb5
      have HB5 := hide (bnext (unhide HB4) hb5)
      clear hb5 g4
      go_wp2_with (first
        | (refine wpList_store_row rfl 24 _ _ rfl (w.heap.size + 1) (leafO 1 0 T.t) rfl rfl 24 zeroP g5 size_pat rfl (leafO_one _ _ _) ?_)
        | fail)
      exact bodyPost_ret (results_cell_row rfl _ _ (w.heap.size + 1) 24 (leafO 1 0 T.t) (0, 0) _ rfl (setRow_heap _ _ _ _ _ _ g5) Tryd.underlying24 rfl size_pat) rfl (gives_leafS (U := litP T.t) (fun X => leaf_in X (by decide) (by decide) (by have := (unhide HS).1; unfold maxLen; omega)) (unhide HS).2.symm (below_setRow (unhide HB5) _ (by omega) _))
end Go.Proofs.YtbmngbpillihaaaDoor
