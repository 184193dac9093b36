/- Where a pattern lies does not count: its size, its depth, what is wrong with it. What is kept of kids lies there. -/
import Derived.Test.YtbmngbpillihaaaDoorSimpRightP
import Derived.Test.YtbmngbpillihaaaDoorSimpFewPM
namespace Go.Proofs.YtbmngbpillihaaaDoor
open Go.RowKit

theorem can_len (T : PT) : T.can.len = T.len := by rw [← PT.lst_len, can_lst, List.length_map, PT.lst_len]
theorem can_cnt : ∀ T : PT, T.can.cnt = T.cnt := mem_lst_ind fun T ih => by
  rw [cnt_lst, cnt_lst T, can_lst, csum_sum, csum_sum, List.map_map]
  exact congrArg (fun l => 1 + List.sum l) (List.map_congr_left fun x hx => ih x hx)
theorem dmax_map {f : PT → PT} : ∀ {l : List PT}, (∀ x ∈ l, (f x).dep = x.dep) → dmax (l.map f) = dmax l
  | [], _ => rfl
  | x :: l, h => by rw [List.map_cons, dmax, dmax, h x List.mem_cons_self, dmax_map fun y hy => h y (List.mem_cons_of_mem _ hy)]
theorem can_dep : ∀ T : PT, T.can.dep = T.dep := mem_lst_ind fun T ih => by
  rw [dep_lst, dep_lst T, can_lst, dmax_map ih]
theorem can_err (T : PT) : errN T.can = errN T := by
  unfold errN
  rw [can_k, can_t, can_n, can_nm, can_len]
/-- What is wrong is that of the one of the same form. -/
theorem can_bad : ∀ T : PT, T.can.bad = T.bad := mem_lst_ind fun T ih => by
  rw [T.can.bad_eq, T.bad_eq, can_err, can_len]
  have hk : ∀ i, i < T.len → (T.can.kid i).bad = (T.kid i).bad := fun i hi => by
    have h1 := PT.lst_at hi
    have h2 : T.can.lst[i]? = some (T.can.kid i) := PT.lst_at (by rw [can_len]; exact hi)
    rw [can_lst, List.getElem?_map, h1] at h2
    rw [← Option.some.inj h2]
    exact ih _ (List.mem_of_getElem? h1)
  rw [firstTo_congr T.len hk]
theorem can_wrong (T : PT) : T.can.wrong = T.wrong := by
  unfold PT.wrong PT.fits
  rw [can_bad, can_cnt, can_dep]
/-- What Simplify hands back, by its form alone: it is right, and stays as it is; it is no larger. -/
theorem twice_of {T U : PT} (h : T.wrong = 0) (hF : FineS T) (hU : U.can = T.simp) : U.wrong = 0 ∧ U.simp = U.can ∧ U.cnt ≤ T.cnt ∧ U.dep ≤ T.dep := by
  refine ⟨?_, ?_, ?_, ?_⟩
  · rw [← can_wrong, hU]; exact simp_right h
  · rw [← simp_can, hU]; exact simp_twice hF
  · rw [← can_cnt, hU]; exact (simp_less T).1
  · rw [← can_dep, hU]; exact (simp_less T).2
end Go.Proofs.YtbmngbpillihaaaDoor

namespace Go.Proofs.YtbmngbpillihaaaDoor
open Go.RowKit

theorem addP_all {P : PT → Prop} {join : PT → PT → Option PT} (hj : ∀ a b y, P a → P b → join a b = some y → P y) {l : List PT} {p : PT} (hl : ∀ x ∈ l, P x) (hp : P p) : ∀ x ∈ addP join l p, P x := by
  unfold addP
  cases h : l.getLast? with
  | none => intro x hx; rw [List.mem_singleton] at hx; rw [hx]; exact hp
  | some a =>
    dsimp only
    cases hy : join a p with
    | none =>
      intro x hx
      rcases List.mem_append.1 hx with q | q
      · exact hl x q
      · rw [List.mem_singleton] at q; rw [q]; exact hp
    | some y =>
      intro x hx
      rcases List.mem_append.1 hx with q | q
      · exact hl x ((List.dropLast_sublist l).subset q)
      · rw [List.mem_singleton] at q; rw [q]; exact hj a p y (hl a (List.mem_of_getLast? h)) hp hy
theorem fold_all {P : PT → Prop} {last idle : PT → Bool} {join : PT → PT → Option PT} (hj : ∀ a b y, P a → P b → join a b = some y → P y) : ∀ (F : List PT) (s : Bool × List PT), (∀ x ∈ F, P x) → (∀ x ∈ s.2, P x) → ∀ x ∈ (F.foldl (stp last idle join) s).2, P x
  | [], s, _, hs => hs
  | p :: F, s, hF, hs => by
    refine fold_all hj F _ (fun x hx => hF x (List.mem_cons_of_mem _ hx)) ?_
    unfold stp
    split
    · exact hs
    · exact addP_all hj hs (hF p (List.mem_cons_self ..))
theorem few_all {P : PT → Prop} {k : Int} {last idle : PT → Bool} {join : PT → PT → Option PT} (hj : ∀ a b y, P a → P b → join a b = some y → P y) {l : List PT} (hl : ∀ x ∈ flatK k l, P x) : ∀ x ∈ fewP k last idle join l, P x := by
  rw [few_fold]
  exact fold_all hj _ _ hl (fun x hx => by cases hx)
theorem leaf_in (w : World) {k n : Int} {t : ByteArray} (hk : -9223372036854775808 ≤ k ∧ k ≤ 9223372036854775807) (hn : -9223372036854775808 ≤ n ∧ n ≤ 9223372036854775807) (ht : t.size ≤ maxLen) : (mkP k t n ⟨#[]⟩ []).In w :=
  ⟨hk, ht, hn, by unfold maxLen; decide, by unfold maxLen; decide, Nat.le_refl _, fun h => by simp at h, fun i => i.elim0⟩
theorem behind_in (w : World) (a b y : PT) (ha : Fine5 a) (hb : Fine5 b) (h : behindP a b = some y) : y.In w := by
  unfold behindP at h
  split at h
  · cases h
  · split at h
    · rename_i h1
      injection h with h; subst h
      exact leaf_in w (by decide) (by decide) (by rw [ByteArray.size_append]; unfold maxLen; omega)
    · split at h
      · rename_i h2
        injection h with h; subst h
        have h3 := ha.2.1
        have h4 := hb.2.1
        unfold cntP
        split
        · exact leaf_in w (by decide) (by decide) (by unfold maxLen; decide)
        · split
          · exact leaf_in w (by decide) (by decide) (by unfold maxLen; decide)
          · exact leaf_in w (by decide) (by omega) (by unfold maxLen; decide)
      · cases h
theorem txt_le (p : Nat → Bool) : (txt p).size ≤ 256 := by
  show (tx p 256).toArray.size ≤ _
  have := tx_max p 256
  simp only [List.size_toArray]; exact this
theorem anyP_in (w : World) (Q : PT) (p : Nat → Bool) (hq : anyP p = Q) : Q.In w := by
  have := txt_le p
  have h2 : (txt p).size ≤ maxLen := by unfold maxLen; omega
  unfold anyP at hq
  by_cases h : (tx p 256).length = 1
  · rw [if_pos h] at hq; rw [← hq]; exact leaf_in w (k := 1) (n := 0) (t := txt p) (by decide) (by decide) h2
  · rw [if_neg h] at hq; rw [← hq]; exact leaf_in w (k := 3) (n := 0) (t := txt p) (by decide) (by decide) h2
theorem either_gives {a b y : PT} (h : eitherP a b = some y) : ∃ p, anyP p = y := by
  unfold eitherP at h
  split at h
  · cases h
  · split at h
    · injection h with h
      exact ⟨_, h⟩
    · cases h
theorem either_in (w : World) (a b y : PT) (h : eitherP a b = some y) : y.In w := by
  obtain ⟨p, hp⟩ := either_gives h
  exact anyP_in w y p hp
/-- A node over a row. -/
def rowP (k : Int) (g cap : Nat) (L : List PT) : PT := ⟨k, ⟨#[]⟩, 0, ⟨#[]⟩, some ⟨g, 0, none⟩, g, 0, L.length, cap, fun i => L[i]⟩
theorem rowP_lst (k : Int) (g cap : Nat) (L : List PT) : (rowP k g cap L).lst = L := by unfold PT.lst rowP; exact List.ofFn_getElem
theorem rowP_can (k : Int) (g cap : Nat) (L : List PT) : (rowP k g cap L).can = (mkP k ⟨#[]⟩ 0 ⟨#[]⟩ L).can := by
  rw [PT.can_eq, PT.can_eq, rowP_lst, mkP_lst]; rfl
theorem rowP_in {w : World} {B k' g cap : Nat} {L : List PT} (h : Row w B 24 5 five (.slice (some ⟨g, 0, none⟩) L.length cap) L) (hL : ∀ x ∈ L, x.In w) (k : Int) (hk : k = (k' : Int)) (hk' : k' ≤ 100) : (rowP k g cap L).In w := by
  have hf := h.max
  have hle : L.length ≤ cap := by
    obtain ⟨a, c, e, -, hc⟩ := h.len
    injection e with _ _ e3
    omega
  refine ⟨by rw [hk]; constructor <;> omega, by unfold maxLen; decide, by decide, by unfold maxLen; decide, hf, hle, fun _ => rfl, fun i => ?_⟩
  obtain ⟨x0, x1, x2, x3, x4⟩ := row_five h rfl (i := i.val) (x := L[i]) (List.getElem?_eq_getElem i.isLt)
  simp only [Nat.zero_add]
  exact ⟨⟨x0, x1, x2, x3, x4⟩, hL _ (List.getElem_mem i.isLt)⟩
end Go.Proofs.YtbmngbpillihaaaDoor
