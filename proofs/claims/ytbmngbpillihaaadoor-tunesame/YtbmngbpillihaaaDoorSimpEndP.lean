/- What is simpler has the same ways, and is found no later. -/
import Derived.Test.YtbmngbpillihaaaDoorSimpQuickM
import Derived.Test.YtbmngbpillihaaaDoorSimpCanM
import Derived.Test.YtbmngbpillihaaaDoorScanWrongRM
import Derived.Test.YtbmngbpillihaaaDoorScanNextP
import Derived.BigRegion
import Derived.Deep.QuietTactic
import Derived.BigQuiet
import Derived.Deep.OwnRows
import Derived.Test.YtbmngbpillihaaaDoorScanWaysRP
import Derived.Test.YtbmngbpillihaaaDoorScanRootsM
import Derived.Laws.ResultCell
import Derived.Test.YtbmngbpillihaaaDoorLongPlainP
namespace Go.Proofs.YtbmngbpillihaaaDoor
open Go.RowKit

theorem nul_can : PT.nul.can = PT.nul := by
  rw [PT.can_eq]
  unfold mkP PT.nul
  congr 1
  funext i
  exact i.elim0
theorem kid_can (T : PT) (j : Nat) : T.can.kid j = (T.kid j).can := by
  by_cases h : j < T.len
  · have h1 := PT.lst_at (T := T.can) (i := j) (by rw [can_len]; exact h)
    rw [can_lst, List.getElem?_map, PT.lst_at h] at h1
    exact (Option.some.inj h1).symm
  · unfold PT.kid
    rw [dif_neg h, dif_neg (by rw [can_len]; exact h), nul_can]
section
variable {s : ByteArray} {R : ByteArray → Option PT} {dg : Nat → ByteArray}
section
variable {f : PT → Nat → List Gft → Sq} (hf : ∀ T i g, f T.can i g = f T i g) (T : PT)
theorem cats_can (hf : ∀ T i g, f T.can i g = f T i g) : ∀ m j i g, cats f T.can m j i g = cats f T m j i g
  | 0, j, i, g => by rw [cats, cats, kid_can, hf]
  | m + 1, j, i, g => by
    rw [cats, cats, kid_can, hf]
    exact bd_congr _ fun e g' => by rw [cats_can hf m (j + 1) e g']
theorem alts_can (hf : ∀ T i g, f T.can i g = f T i g) (i : Nat) (g : List Gft) : ∀ m j, alts f T.can i g m j = alts f T i g m j
  | 0, _ => rfl
  | m + 1, j => by rw [alts, alts, kid_can, hf, alts_can hf i g m (j + 1)]
theorem agn_can (hf : ∀ T i g, f T.can i g = f T i g) : ∀ m i g, agn f T.can m i g = agn f T m i g
  | 0, _, _ => rfl
  | m + 1, i, g => by
    rw [agn, agn, kid_can, hf]
    refine congrArg (fun z => put (wy i g) (put hs z)) (bd_congr _ fun e g' => ?_)
    rw [agn_can hf m e g']
end
theorem D_can : ∀ n T i g, D s R dg n (PT.can T) i g = D s R dg n T i g
  | 0, _, _, _ => rfl
  | n + 1, T, i, g => by
    have ih := D_can n
    have ho : onl s T.can i = onl s T i := by unfold onl; rw [can_k, can_t, can_n]
    rw [D, D, can_k, can_t, can_nm, can_len, kid_can, ih, cats_can T ih, alts_can T ih, agn_can T ih, ho]
theorem tks_ah : ∀ l : List Ev, ah l (vs l).length = tks l
  | [] => rfl
  | x :: l => by
    rw [tks_cons]
    by_cases h0 : x.w = 0
    · rw [ah_tk h0, vs_no (vis_not h0), if_pos h0, tks_ah l]
    rw [if_neg h0]
    cases hv : vis x with
    | true => rw [vs_yes hv, List.length_cons, ah_vs hv, tks_ah l, Nat.zero_add]
    | false => rw [vs_no hv, ah_hs h0 hv, tks_ah l, Nat.zero_add]
theorem wys_vs (l : List Ev) : wys l = wys (vs l) := by
  unfold wys vs
  rw [List.filter_filter]
  congr 1
  funext x
  unfold vis
  cases h : x.w == 3 <;> simp
theorem qk_whole {p q : Sq} (h : Qk 0 p q) (h3 : p.2 ≠ 3) : prsW q.1 = prsW p.1 ∧ q.2 = p.2 ∧ tks q.1 ≤ tks p.1 := by
  obtain ⟨r, x, h1, h2, h4⟩ := h
  obtain ⟨rfl, h5⟩ := h4 h3
  rw [List.append_nil] at h1
  subst h1
  refine ⟨?_, h5, ?_⟩
  · unfold prsW
    rw [wys_vs q.1, wys_vs p.1, h2.1]
  · have := h2.2 (vs p.1).length
    rw [tks_ah, h2.1, tks_ah] at this
    omega
end

theorem wrongR_simp {RL : List (ByteArray × PT)} {T U : PT} {s : ByteArray} {f : Int} (h : wrongR RL T s f = 0) (hU : U.wrong = 0) : wrongR RL U s f = 0 := by
  obtain ⟨q1, q2, q3, q4, q5⟩ := wrongR_ok h
  unfold wrongR
  rw [if_neg (by rw [hU]; simp), if_neg (by rw [q2]; simp), if_neg (by omega), if_neg (by omega)]
theorem tld_len : ∀ (l : List Ev) (en k f : Nat), (tld l en k f).1.length ≤ k
  | [], _, _, _ => Nat.zero_le _
  | x :: l, en, k, f => by
    rw [tld]
    split
    · exact Nat.zero_le _
    split
    · have := tld_len l en (k - 1) f
      show (_ :: (tld l en (k - 1) f).1).length ≤ k
      rw [List.length_cons]
      omega
    split
    · split
      · exact Nat.zero_le _
      · exact tld_len l en k (f - 1)
    · exact tld_len l en k f
theorem ways_len {RL : List (ByteArray × PT)} {dg : Nat → ByteArray} {T : PT} {s : ByteArray} {i : Int} : (waysOf RL dg T s i 4096 20000).1.length ≤ 4096 := by
  unfold waysOf
  split
  · exact Nat.zero_le _
  split
  · exact Nat.zero_le _
  split
  · exact Nat.zero_le _
  split
  · exact Nat.zero_le _
  · exact tld_len _ _ _ _
theorem ways_simp {RL : List (ByteArray × PT)} {dg : Nat → ByteArray} {T U : PT} {s : ByteArray} {i : Int} (hU : U.can = T.simp) (hUw : U.wrong = 0) (h : allOk (waysOf RL dg T s i 4096 20000) = true) : waysOf RL dg U s i 4096 20000 = waysOf RL dg T s i 4096 20000 := by
  have hlen : (waysOf RL dg T s i 4096 20000).1.length < 4096 := by
    unfold allOk at h
    rw [Bool.and_eq_true, decide_eq_true_eq, decide_eq_true_eq] at h
    exact h.2
  obtain ⟨j, rfl, hj, hw, h3, h2, ht, he⟩ := waysOf_ok h
  obtain ⟨q1, q2, q3, q4, q5⟩ := wrongR_ok hw
  have hq := simp_quick (s := s) (R := fun nm => ruleOf nm RL) (dg := dg) T (right_of q1).1 20001 j [] hj
  rw [← hU, D_can] at hq
  obtain ⟨a1, a2, a3⟩ := qk_whole hq h3
  rw [he] at hlen
  have htl : told RL dg U s j 4096 20000 = (prsW (D s (fun nm => ruleOf nm RL) dg 20001 T j []).1, (D s (fun nm => ruleOf nm RL) dg 20001 T j []).2) := by
    show tld (D s (fun nm => ruleOf nm RL) dg 20001 U j []).1 (D s (fun nm => ruleOf nm RL) dg 20001 U j []).2 4096 20000 = _
    have hl : (prsW (D s (fun nm => ruleOf nm RL) dg 20001 U j []).1).length < 4096 := by rw [a1]; exact hlen
    rw [tld_all _ _ 4096 20000 (by omega) hl, a1, a2]
  rw [he]
  unfold waysOf
  have hn : ¬ ((j : Int) < 0 ∨ (s.size : Int) < (j : Int) ∨ (4096 : Int) < 0 ∨ (4096 : Int) < 4096) := by omega
  rw [if_neg (by rw [wrongR_simp hw hUw]; simp), if_neg hn, Int.toNat_natCast, show ((4096 : Int).toNat) = 4096 from rfl, show ((20000 : Int).toNat) = 20000 from rfl, htl]
  have hE := D_end (s := s) (R := fun nm => ruleOf nm RL) (dg := dg) 20001 T j []
  rw [if_neg (by show ¬ (D s (fun nm => ruleOf nm RL) dg 20001 T j []).2 = 10; omega), if_neg h2]
end Go.Proofs.YtbmngbpillihaaaDoor
