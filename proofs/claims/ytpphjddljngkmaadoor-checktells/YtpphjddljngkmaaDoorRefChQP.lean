/- The document's Reached is the checker's, plain. -/
import Derived.Test.YtpphjddljngkmaaDoorCkU0M
import Derived.Test.YtpphjddljngkmaaDoorRefChPP
namespace Go.Proofs.YtpphjddljngkmaaDoor
open Go.RowKit

theorem lout_end {n : ByteArray} : (n.toList == [69, 78, 68]) = decide (n = tEnd) := by
  rw [← by_eq, show tEnd.toList = [69, 78, 68] by rw [ByteArray.toList_eq]; rfl]
/-- Where a label leads, within the program. -/
theorem aft_lead {P : List SV} {c : CS} {i k : Nat} {n : ByteArray} (ho : ChkOk P) (hc : c.fl = mapAt labF P P.length) (hn : lbBad P n = false) (hk : k < P.length) : (k : Int) = aftR P i n ↔ k ∈ leadN c.fl i n := by
  unfold aftR leadN
  cases he : n.toList.isEmpty
  · rw [if_neg (show ¬ false = true by decide), if_neg (show ¬ false = true by decide), lout_end]
    by_cases h1 : n = tEnd
    · rw [decide_eq_true h1, if_pos rfl, if_pos (by unfold lout; rw [decide_eq_true h1]; rfl)]
      exact ⟨fun q => by omega, fun q => by cases q⟩
    · rw [decide_eq_false h1, if_neg (by decide)]
      cases hl : lout n
      · rw [if_neg (by decide)]
        unfold lbBad at hn
        rw [he, hl] at hn
        have hn : ¬ rFst (labF n) P 0 < 0 := of_decide_eq_false (by simpa using hn)
        have h2 := rFst_lt (labF n) P
        rw [hc]
        unfold mapAt
        rw [if_pos (by omega)]
        simp only [Option.getD_some, List.mem_singleton]
        omega
      · rw [if_pos rfl]
        refine ⟨fun q => ?_, fun q => by cases q⟩
        obtain ⟨m, S, e, h1, h2⟩ := rFst_at (f := labF n) (P := P) (by omega)
        have hx := ho.nm m S h1
        have hS : S.lab = n := by
          unfold labF at h2
          rw [Bool.and_eq_true, by_eq] at h2
          exact of_decide_eq_true h2.1
        unfold namedB at hx
        have : nmB1 P m S = true := by unfold nmB1; rw [hS, he, hl]; rfl
        rw [this, if_pos rfl] at hx
        cases hx
  · rw [if_pos rfl, if_pos rfl]
    simp only [List.mem_singleton]
    omega
theorem ent_mem {P : List SV} {c : CS} {k : Nat} {T : PT} (ho : ChkOk P) (hG : Kn P P.length c) (hk6 : T.k = 6) (hT : calE P T = 0) : (k : Int) ∈ entR P T ↔ k ∈ entN P c T := by
  unfold entR entN
  have hl := rFst_lt (defF T.nm) P
  rw [hG.2]
  unfold mapAt
  unfold calE at hT
  rw [if_neg (fun q => q hk6)] at hT
  by_cases hb : 0 ≤ blt T.nm
  · rw [if_neg (fun q => by omega)]
    have hn : ¬ (0 ≤ rFst (defF T.nm) P 0 ∧ rFst (defF T.nm) P 0 < (P.length : Int)) := fun q => by
      obtain ⟨m, S, e, h1, h2⟩ := rFst_at (f := defF T.nm) (P := P) q.1
      have hx := ho.nm m S h1
      unfold defF at h2
      rw [Bool.and_eq_true, by_eq] at h2
      have h7 : S.k = 7 := eq_of_beq h2.1
      have hS : S.nm = T.nm := of_decide_eq_true h2.2
      unfold namedB at hx
      cases h1 : nmB1 P m S
      · rw [h1, if_neg (by decide), if_neg (by rw [h7]; decide), if_pos (by unfold nmB2; rw [hS, decide_eq_true hb]; rfl)] at hx
        cases hx
      · rw [h1, if_pos rfl] at hx; cases hx
    rw [if_neg hn]
    exact ⟨(fun q => absurd q List.not_mem_nil), (fun q => absurd q List.not_mem_nil)⟩
  · rw [if_neg hb] at hT
    by_cases hn : rFst (defF T.nm) P 0 < 0
    · rw [if_pos hn] at hT; exact absurd hT (by decide)
    rw [if_pos ⟨hk6, by omega⟩, if_pos (by omega)]
    obtain ⟨m, D, e, h1, h2⟩ := rFst_at (f := defF T.nm) (P := P) (by omega)
    rw [e]
    simp only [Int.toNat_natCast, h1, List.mem_singleton]
    unfold defF at h2
    rw [Bool.and_eq_true] at h2
    have h7 : D.k = 7 := eq_of_beq h2.1
    have hu := ho.us m D h1
    rw [usE_eq] at hu
    split at hu
    · exact absurd hu (by decide)
    · split at hu
      · exact absurd hu (by decide)
      · rename_i q
        have hne : ¬ rFst (labF D.en) P 0 < 0 := fun r => q ⟨h7, r⟩
        have h3 := rFst_lt (labF D.en) P
        rw [hG.1]
        unfold mapAt
        rw [if_pos (by omega)]
        simp only [Option.getD_some]
        omega
theorem to_nxt {P : List SV} {c : CS} {i k : Nat} {S : SV} (ho : ChkOk P) (hG : Kn P P.length c) (hS : P[i]? = some S) (hk : k < P.length) : (k : Int) ∈ toR P i S ↔ k ∈ S.nxt P c i := by
  have hu := ho.us i S hS
  rw [usE_eq] at hu
  by_cases h1 : [S.al, S.ye, S.no].any (lbBad P) = true
  · rw [if_pos h1] at hu; exact absurd hu (by decide)
  rw [if_neg h1] at hu
  have hb : ∀ t ∈ [S.al, S.ye, S.no], lbBad P t = false := fun t ht => by
    cases hq : lbBad P t
    · rfl
    · exact absurd (List.any_eq_true.2 ⟨t, ht, hq⟩) h1
  have hal := hb S.al (by simp)
  have hye := hb S.ye (by simp)
  have hno := hb S.no (by simp)
  have hc : fst0 (S.exR.map fun x => fst0 (x.all.map (calE P))) = 0 := by
    split at hu
    · exact absurd hu (by decide)
    · exact hu
  have hca : ∀ x ∈ S.exR, ∀ T ∈ x.all, calE P T = 0 := fun x hx T hT => fst0_all (fst0_all hc _ (List.mem_map.2 ⟨x, hx, rfl⟩)) _ (List.mem_map.2 ⟨T, hT, rfl⟩)
  have hgo : (k : Int) ∈ goR P i S ↔ k ∈ S.goN c.fl i := by
    unfold goR SV.goN
    cases he : S.al.toList.isEmpty
    · rw [if_pos rfl, if_pos rfl, List.mem_singleton]
      exact aft_lead ho hG.1 hal hk
    · rw [if_neg (show ¬ true = false by decide), if_neg (show ¬ true = false by decide), List.mem_append, List.mem_append, List.mem_singleton, aft_lead ho hG.1 hye hk]
      cases canF S.k
      · rw [if_neg (show ¬ false = true by decide), if_neg (show ¬ false = true by decide)]
        exact ⟨fun q => q.elim .inl (fun q => absurd q List.not_mem_nil), fun q => q.elim .inl (fun q => absurd q List.not_mem_nil)⟩
      · rw [if_pos rfl, if_pos rfl, List.mem_singleton, aft_lead ho hG.1 hno hk]
  unfold toR SV.nxt
  rw [List.mem_append, List.mem_append, hgo]
  refine or_congr Iff.rfl ?_
  constructor
  · intro h
    obtain ⟨x, hx, h⟩ := List.mem_flatMap.1 h
    obtain ⟨T, hT, h⟩ := List.mem_flatMap.1 h
    have h6 : T.k = 6 := by
      unfold entR at h
      split at h
      · rename_i q; exact q.1
      · cases h
    exact List.mem_flatMap.2 ⟨T, List.mem_filter.2 ⟨List.mem_flatMap.2 ⟨x, hx, hT⟩, decide_eq_true h6⟩, (ent_mem ho hG h6 (hca x hx T hT)).1 h⟩
  · intro h
    obtain ⟨T, hT, h⟩ := List.mem_flatMap.1 h
    obtain ⟨hT, h6⟩ := List.mem_filter.1 hT
    obtain ⟨x, hx, hT⟩ := List.mem_flatMap.1 hT
    have h6 : T.k = 6 := of_decide_eq_true h6
    exact List.mem_flatMap.2 ⟨x, hx, List.mem_flatMap.2 ⟨T, hT, (ent_mem ho hG h6 (hca x hx T hT)).2 h⟩⟩
/-- All that a walk comes to has what holds at its start and goes on. -/
theorem come_q {Q : Nat → Prop} {q : List Bool × List Nat} {x : Nat} (hx : q.1[x]? = some false → Q x) (h : (∀ i : Nat, q.1[i]? = some true → Q i) ∧ ∀ i ∈ q.2, Q i) : (∀ i : Nat, (comeN q x).1[i]? = some true → Q i) ∧ ∀ i ∈ (comeN q x).2, Q i := by
  unfold comeN
  split
  · rename_i e
    refine ⟨fun i hi => ?_, fun i hi => ?_⟩
    · have hi : (q.1.set x true)[i]? = some true := hi
      rw [List.getElem?_set] at hi
      split at hi
      · rename_i e2; subst e2; exact hx e
      · exact h.1 i hi
    · rcases List.mem_append.1 hi with hi | hi
      · exact h.2 i hi
      · obtain rfl : i = x := by simpa using hi
        exact hx e
  · exact h
theorem comes_q {Q : Nat → Prop} {n : Nat} : ∀ (l : List Nat) (q : List Bool × List Nat), (∀ x ∈ l, x < n → Q x) → q.1.length = n → ((∀ i : Nat, q.1[i]? = some true → Q i) ∧ ∀ i ∈ q.2, Q i) → (∀ i : Nat, (l.foldl comeN q).1[i]? = some true → Q i) ∧ ∀ i ∈ (l.foldl comeN q).2, Q i
  | [], _, _, _, h => h
  | x :: l, q, hl, hn, h => comes_q l (comeN q x) (fun y hy => hl y (List.mem_cons_of_mem _ hy)) ((Mo.come q x).len.trans hn) (come_q (fun e => hl x (List.mem_cons_self ..) (by rw [← hn]; exact (List.getElem?_eq_some_iff.1 e).1)) h)
theorem walk_q {Q : Nat → Prop} {n : Nat} {nx : Nat → List Nat} (hnx : ∀ i k, Q i → k ∈ nx i → k < n → Q k) : ∀ (f : Nat) (q : List Bool × List Nat), q.1.length = n → ((∀ i : Nat, q.1[i]? = some true → Q i) ∧ ∀ i ∈ q.2, Q i) → ∀ i : Nat, (walkN nx f q)[i]? = some true → Q i
  | 0, _, _, h, i, hi => h.1 i hi
  | f + 1, q, hn, h, i, hi => by
    unfold walkN at hi
    cases hq : q.2.getLast? with
    | none => rw [hq] at hi; exact h.1 i hi
    | some j =>
      rw [hq] at hi
      simp only at hi
      have hj : Q j := h.2 j (List.mem_of_getLast? hq)
      refine walk_q hnx f _ ((Mo.comes (nx j) (q.1, q.2.dropLast)).len.trans hn) ?_ i hi
      exact comes_q (nx j) (q.1, q.2.dropLast) (fun x hx hlt => hnx j x hj hx hlt) hn ⟨h.1, fun i hi => h.2 i (List.dropLast_subset _ hi)⟩
theorem bools_ext {a b : List Bool} (hl : a.length = b.length) (h : ∀ i : Nat, a[i]? = some true ↔ b[i]? = some true) : a = b := by
  refine List.ext_getElem hl fun i h1 h2 => ?_
  have q := h i
  rw [List.getElem?_eq_getElem h1, List.getElem?_eq_getElem h2] at q
  generalize a[i] = x at *
  generalize b[i] = y at *
  cases x
  · cases y
    · rfl
    · exact absurd (Option.some.inj (q.2 rfl)) (by decide)
  · exact (Option.some.inj (q.1 rfl)).symm
/-- The document's Reached is the checker's. -/
theorem rch_reach {P : List SV} {o : List Bool} {c : CS} (ho : ChkOk P) (hG : Kn P P.length c) (h : RchR P o) : o = reachS P c := by
  have hlen := reach_len P c
  have hnx : ∀ (i : Nat) S, P[i]? = some S → nxtAt P c i = S.nxt P c i := fun i S hS => by unfold nxtAt; rw [hS]
  have h1 : ∀ i : Nat, o[i]? = some true → (reachS P c)[i]? = some true := fun i hi => by
    refine h.und i hi (fun i => (reachS P c)[i]? = some true) (fun q => reach_zero q) ?_
    intro i S k hS hi hk hlt
    have hk : k ∈ nxtAt P c i := by rw [hnx i S hS]; exact (to_nxt ho hG hS hlt).1 hk
    have := reach_closed P c i k hi hk
    show (reachS P c)[k]? = some true
    rw [List.getElem?_eq_getElem (by rw [hlen]; exact hlt)] at this ⊢
    cases hb : (reachS P c)[k]'(by rw [hlen]; exact hlt)
    · rw [hb] at this; exact absurd rfl this
    · rfl
  have h2 : ∀ i : Nat, (reachS P c)[i]? = some true → o[i]? = some true := fun i hi => by
    refine walk_q (Q := fun i => o[i]? = some true) (n := P.length) (nx := nxtAt P c) ?_ (2 * P.length + 1) (comeN (List.replicate P.length false, []) 0) ((Mo.come _ 0).len.trans (by simp)) ?_ i hi
    · intro i k hi hk hlt
      obtain ⟨S, hS⟩ : ∃ S, P[i]? = some S := ⟨P[i]'(by rw [← h.len]; exact (List.getElem?_eq_some_iff.1 hi).1), List.getElem?_eq_getElem _⟩
      rw [hnx i S hS] at hk
      have hm := (to_nxt ho hG hS hlt).2 hk
      have ha := h.all i S hS
      unfold stepR at ha
      rw [if_pos hi] at ha
      show o[k]? = some true
      rw [← ha]
      exact marks_mem _ _ _ hm (by rw [h.len]; exact hlt)
    · refine come_q (fun e => h.zero ?_) ⟨fun i hi => ?_, fun i hi => by cases hi⟩
      · have := (List.getElem?_eq_some_iff.1 e).1
        simpa using this
      · have hi : (List.replicate P.length false)[i]? = some true := hi
        rw [List.getElem?_replicate] at hi
        split at hi
        · cases hi
        · cases hi
  exact bools_ext (h.len.trans hlen.symm) fun i => ⟨h1 i, h2 i⟩
end Go.Proofs.YtpphjddljngkmaaDoor
