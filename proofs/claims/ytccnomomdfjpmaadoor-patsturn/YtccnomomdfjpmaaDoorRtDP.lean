/- What is written is read: every right pattern. -/
import Derived.Test.YtccnomomdfjpmaaDoorRtCM
namespace Go.Proofs.YtccnomomdfjpmaaDoor
open Go.RowKit

theorem kid_dep {T : PT} {i : Nat} (h : i < T.len) : (T.kid i).dep + 1 ≤ T.dep := by
  have h1 : (T.kid i).dep ≤ dmax T.lst := le_dmax (List.mem_of_getElem? (PT.lst_at h))
  rw [dep_lst T]; omega
theorem lst_map {α : Type} (T : PT) (f : PT → α) : T.lst.map f = (List.range T.len).map fun i => f (T.kid i) := by rw [lst_range, List.map_map]; rfl
theorem range_cons {n : Nat} (h : 0 < n) : ∃ r, List.range n = 0 :: r := by
  obtain ⟨m, rfl⟩ : ∃ m, n = m + 1 := ⟨n - 1, by omega⟩
  exact ⟨_, List.range_succ_eq_map⟩
theorem brk_pie (p k : Int) (hp : p ≠ 19) : brk p k = (decide (k = 19) || decide (k = 18)) := by
  unfold brk
  rw [show decide (p ≠ 19) = true from decide_eq_true hp, Bool.and_true]
theorem brk_alt (k : Int) : brk 19 k = decide (k = 19) := by
  unfold brk
  rw [show decide ((19 : Int) ≠ 19) = false from rfl, Bool.and_false, Bool.or_false]
/-- What holds of a right pattern, wherever its text stands. -/
structure Rds (s : ByteArray) (T : PT) : Prop where
  pie : ∀ d, (if T.k = 18 ∨ T.k = 19 then T.dep ≤ d else T.dep ≤ d + 1) → Pie d (Bf s d) s (T.pie, T.bar)
  alt : ∀ d, (if T.k = 19 then T.dep ≤ d else T.dep ≤ d + 1) → Alt d (Bf s d) s (T.alt, T.bar)
  all : ∀ d, T.dep ≤ d + 1 → All s d (T.txt, T.bar)
theorem alt_one {d : Nat} {B : Nat → Rd PT} {s : ByteArray} {x : List UInt8 × PT} (h : Pie d B s x) : Alt d B s x := alt_of x [] (fun y hy => by rw [List.mem_singleton] at hy; subst hy; exact h)
theorem all_one {d : Nat} {s : ByteArray} {x : List UInt8 × PT} (h : Alt d (Bf s d) s x) : All s d x := fun _ ha hs he => all_of x [] (fun y hy => by rw [List.mem_singleton] at hy; subst hy; exact h) ha hs he
/-- A piece that needs no brackets. -/
theorem rds_plain {s : ByteArray} {T : PT} (h8 : T.k ≠ 18) (h9 : T.k ≠ 19) (h : ∀ d, T.dep ≤ d + 1 → Pie d (Bf s d) s (T.txt, T.bar)) : Rds s T := by
  have e1 : T.pie = T.txt := by unfold PT.pie; rw [decide_eq_false h9, decide_eq_false h8]; rfl
  have e2 : T.alt = T.txt := by unfold PT.alt; rw [decide_eq_false h9]; rfl
  refine ⟨fun d hd => ?_, fun d hd => ?_, fun d hd => ?_⟩
  · rw [if_neg (by omega)] at hd; rw [e1]; exact h d hd
  · rw [if_neg h9] at hd; rw [e2]; exact alt_one (h d hd)
  · exact all_one (alt_one (h d hd))
theorem tog_two {k : Int} {l : List PT} (h : 2 ≤ l.length) : togP k l = mkP k ⟨#[]⟩ 0 ⟨#[]⟩ l := by
  match l, h with
  | _ :: _ :: _, _ => rfl
theorem rds_cat {s : ByteArray} {T : PT} (h8 : T.k = 18) (hl : 2 ≤ T.len) (ih : ∀ i, i < T.len → Rds s (T.kid i)) : Rds s T := by
  have hx : T.txt = jn [32] (T.lst.map PT.pie) := by
    rw [T.txt_eq (by omega), if_neg (by omega), if_pos h8, joinTo_jn, lst_map]
    congr 1
    refine List.map_congr_left fun i _ => ?_
    unfold PT.kidT PT.pie
    rw [brk_pie _ _ (by omega)]
  have hb : T.bar = togP 18 (T.lst.map PT.bar) := by
    rw [tog_two (by rw [List.length_map, PT.lst_len]; exact hl), T.bar_eq, h8]
    rfl
  have core : ∀ d, T.dep ≤ d + 1 → Alt d (Bf s d) s (T.txt, T.bar) := fun d hd => by
    obtain ⟨r, hr⟩ := range_cons (show 0 < T.len by omega)
    rw [hx, hb, lst_map, lst_map, hr, List.map_cons, List.map_cons]
    have hall : ∀ i ∈ List.range T.len, Pie d (Bf s d) s ((T.kid i).pie, (T.kid i).bar) := fun i hi => by
      have hi' := List.mem_range.1 hi
      have := kid_dep hi'
      exact (ih i hi').pie d (by split <;> omega)
    rw [hr] at hall
    have := alt_of ((T.kid 0).pie, (T.kid 0).bar) (r.map fun i => ((T.kid i).pie, (T.kid i).bar)) (fun y hy => by
      rcases List.mem_cons.1 hy with rfl | hy
      · exact hall 0 (by simp)
      · obtain ⟨i, hi, rfl⟩ := List.mem_map.1 hy
        exact hall i (List.mem_cons_of_mem _ hi))
    simpa [List.map_map, Function.comp_def] using this
  have e2 : T.alt = T.txt := by unfold PT.alt; rw [decide_eq_false (by omega)]; rfl
  have e1 : T.pie = 40 :: T.txt ++ [41] := by unfold PT.pie; rw [decide_eq_true h8, Bool.or_true]; rfl
  refine ⟨fun d hd => ?_, fun d hd => ?_, fun d hd => all_one (core d hd)⟩
  · rw [if_pos (.inl h8)] at hd
    have := T.dep_pos
    obtain ⟨d', rfl⟩ : ∃ d', d = d' + 1 := ⟨d - 1, by omega⟩
    rw [e1]
    exact bra_at (all_one (core d' hd))
  · rw [if_neg (by omega)] at hd; rw [e2]; exact core d hd
theorem rds_alt {s : ByteArray} {T : PT} (h9 : T.k = 19) (hl : 2 ≤ T.len) (ih : ∀ i, i < T.len → Rds s (T.kid i)) : Rds s T := by
  have hx : T.txt = jn [32, 124, 32] (T.lst.map PT.alt) := by
    rw [T.txt_eq (by omega), if_neg (by omega), if_neg (by omega), if_pos h9, joinTo_jn, lst_map]
    congr 1
    refine List.map_congr_left fun i _ => ?_
    unfold PT.kidT PT.alt
    rw [h9, brk_alt]
  have hb : T.bar = togP 19 (T.lst.map PT.bar) := by
    rw [tog_two (by rw [List.length_map, PT.lst_len]; exact hl), T.bar_eq, h9]
    rfl
  have core : ∀ d, T.dep ≤ d + 1 → All s d (T.txt, T.bar) := fun d hd => by
    obtain ⟨r, hr⟩ := range_cons (show 0 < T.len by omega)
    have hall : ∀ i ∈ List.range T.len, Alt d (Bf s d) s ((T.kid i).alt, (T.kid i).bar) := fun i hi => by
      have hi' := List.mem_range.1 hi
      have := kid_dep hi'
      exact (ih i hi').alt d (by split <;> omega)
    rw [hr] at hall
    have key := @all_of d s ((T.kid 0).alt, (T.kid 0).bar) (r.map fun i => ((T.kid i).alt, (T.kid i).bar)) (fun y hy => by
      rcases List.mem_cons.1 hy with rfl | hy
      · exact hall 0 (by simp)
      · obtain ⟨i, hi, rfl⟩ := List.mem_map.1 hy
        exact hall i (List.mem_cons_of_mem _ hi))
    have e3 : (((T.kid 0).alt, (T.kid 0).bar) :: r.map fun i => ((T.kid i).alt, (T.kid i).bar)).map (·.1) = T.lst.map PT.alt := by
      rw [lst_map, hr, List.map_cons, List.map_cons, List.map_map]; rfl
    have e4 : (((T.kid 0).alt, (T.kid 0).bar) :: r.map fun i => ((T.kid i).alt, (T.kid i).bar)).map (·.2) = T.lst.map PT.bar := by
      rw [lst_map, hr, List.map_cons, List.map_cons, List.map_map]; rfl
    intro i ha hs he
    have k := @key i (by rw [e3, ← hx]; exact ha) (by rw [e3, ← hx]; exact hs) (by rw [e3, ← hx]; exact he)
    rw [e3, e4, ← hx, ← hb] at k
    exact k
  have e2 : T.alt = 40 :: T.txt ++ [41] := by unfold PT.alt; rw [decide_eq_true h9]; rfl
  have e1 : T.pie = 40 :: T.txt ++ [41] := by unfold PT.pie; rw [decide_eq_true h9, Bool.true_or]; rfl
  have pie : ∀ d, T.dep ≤ d → Pie d (Bf s d) s (40 :: T.txt ++ [41], T.bar) := fun d hd => by
    have := T.dep_pos
    obtain ⟨d', rfl⟩ : ∃ d', d = d' + 1 := ⟨d - 1, by omega⟩
    exact bra_at (core d' hd)
  refine ⟨fun d hd => ?_, fun d hd => ?_, core⟩
  · rw [if_pos (.inr h9)] at hd; rw [e1]; exact pie d hd
  · rw [if_pos h9] at hd; rw [e2]; exact alt_one (pie d hd)
theorem lst_nil {T : PT} (h : T.len = 0) : T.lst = [] := List.eq_nil_of_length_eq_zero (by rw [PT.lst_len]; exact h)
theorem lst_one {T : PT} (h : T.len = 1) : T.lst = [T.kid 0] := by rw [lst_range, h]; rfl
theorem rds_all {s : ByteArray} : ∀ T : PT, T.bad = 0 → Rds s T := PT.ind fun T ih hbad => by
  obtain ⟨he, hk⟩ := bad_zero hbad
  obtain ⟨k1, k24, ht, hn, hnm, hle, hmo⟩ := right_node he
  have ihk : ∀ i, i < T.len → Rds s (T.kid i) := fun i hi => ih i hi (hk i hi)
  by_cases h8 : T.k = 18
  · refine rds_cat h8 ?_ ihk
    have : leastK T.k = 2 := by unfold leastK; rw [if_pos (.inl h8)]
    omega
  · by_cases h9 : T.k = 19
    · refine rds_alt h9 ?_ ihk
      have : leastK T.k = 2 := by unfold leastK; rw [if_pos (.inr h9)]
      omega
    · refine rds_plain h8 h9 fun d hd => ?_
      by_cases h1 : T.k = 1
      · have hl0 : T.len = 0 := by
          have : mostK T.k = 0 := by unfold mostK; rw [if_neg (by omega), if_neg (by omega)]
          omega
        rw [T.txt_eq k1, if_pos h1, T.bar_eq, lst_nil hl0, h1]
        exact lit_piece
      · by_cases h21 : T.k = 21 ∨ T.k = 22
        · have hl1 : T.len = 1 := by
            have a : mostK T.k = 1 := by unfold mostK; rw [if_neg (by omega), if_pos (by omega)]
            have b : leastK T.k = 1 := by unfold leastK; rw [if_neg (by omega), if_pos (by omega)]
            omega
          have hdk := kid_dep (T := T) (i := 0) (by omega)
          have hp := (ihk 0 (by omega)).pie d (by split <;> omega)
          have hh : hasK T.k = 3 := by unfold hasK; rw [if_neg (by omega), if_neg (by omega), if_pos (by omega)]
          have hj : joinTo [] T.kidT T.len = (T.kid 0).pie := by
            rw [hl1]
            show [] ++ [] ++ T.kidT 0 = _
            unfold PT.kidT PT.pie
            rw [brk_pie _ _ (by omega)]
            rfl
          have hbar : T.bar = mkP T.k ⟨#[]⟩ 0 T.nm [(T.kid 0).bar] := by
            rw [T.bar_eq, lst_one hl1, hh]
            rfl
          rcases h21 with h21 | h22
          · rw [T.txt_eq k1, if_neg h1, if_neg h8, if_neg h9, if_pos h21, hj, hbar, h21]
            exact gift_piece (hnm hh) hp (.inl ⟨rfl, rfl⟩)
          · rw [T.txt_eq k1, if_neg h1, if_neg h8, if_neg h9, if_neg (by omega), if_pos h22, hj, hbar, h22]
            exact gift_piece (hnm hh) hp (.inr ⟨rfl, rfl⟩)
        · by_cases h23 : T.k = 23 ∨ T.k = 24
          · have hl0 : T.len = 0 := by
              have : mostK T.k = 0 := by unfold mostK; rw [if_neg (by omega), if_neg (by omega)]
              omega
            have hh : hasK T.k = 3 := by unfold hasK; rw [if_neg (by omega), if_neg (by omega), if_pos (by omega)]
            have hbar : T.bar = mkP T.k ⟨#[]⟩ 0 T.nm [] := by
              rw [T.bar_eq, lst_nil hl0, hh]
              rfl
            rcases h23 with h23 | h24
            · rw [T.txt_eq k1, if_neg h1, if_neg h8, if_neg h9, if_neg (by omega), if_neg (by omega), if_pos h23, hbar, h23]
              exact name_piece (hnm hh) (.inl ⟨rfl, rfl⟩)
            · rw [T.txt_eq k1, if_neg h1, if_neg h8, if_neg h9, if_neg (by omega), if_neg (by omega), if_neg (by omega), if_pos h24, hbar, h24]
              exact name_piece (hnm hh) (.inr ⟨rfl, rfl⟩)
          · rw [T.txt_eq k1, if_neg h1, if_neg h8, if_neg h9, if_neg (by omega), if_neg (by omega), if_neg (by omega), if_neg (by omega)]
            obtain ⟨K, hK⟩ : ∃ K : Nat, T.k = (K : Int) := ⟨T.k.toNat, by omega⟩
            rw [show T.k.toNat = K by omega]
            by_cases h20 : T.k = 20
            · have hl1 : T.len = 1 := by
                have a : mostK T.k = 1 := by unfold mostK; rw [if_neg (by omega), if_pos (by omega)]
                have b : leastK T.k = 1 := by unfold leastK; rw [if_neg (by omega), if_pos (by omega)]
                omega
              have hh : hasK T.k = 0 := by unfold hasK; rw [if_neg (by omega), if_neg (by omega), if_neg (by omega)]
              have hbar : T.bar = mkP 20 ⟨#[]⟩ 0 ⟨#[]⟩ [(T.kid 0).bar] := by
                rw [T.bar_eq, lst_one hl1, hh, h20]
                rfl
              have hdk := kid_dep (T := T) (i := 0) (by omega)
              have hdp := (T.kid 0).dep_pos
              obtain ⟨d', rfl⟩ : ∃ d', d = d' + 1 := ⟨d - 1, by omega⟩
              rw [hbar, if_neg (by rw [hh]; decide), if_neg (by rw [hh]; decide), if_pos h20, show K = 20 by omega]
              exact arb_piece ((ihk 0 (by omega)).all d' (by omega))
            · have hl0 : T.len = 0 := by
                have : mostK T.k = 0 := by unfold mostK; rw [if_neg (by omega), if_neg (by omega)]
                omega
              have hKr : (2 ≤ K ∧ K ≤ 17) ∨ K = 20 := .inl (by omega)
              by_cases hh2 : hasK T.k = 2
              · have hbar : T.bar = mkP K ⟨#[]⟩ T.n ⟨#[]⟩ [] := by
                  rw [T.bar_eq, lst_nil hl0, hh2, hK]
                  rfl
                rw [if_pos hh2, hbar]
                exact num_piece hKr (by rw [← hK]; exact hh2) (hn hh2).1 (hn hh2).2
              · by_cases hh1 : hasK T.k = 1
                · have hbar : T.bar = mkP K T.t 0 ⟨#[]⟩ [] := by
                    rw [T.bar_eq, lst_nil hl0, hh1, hK]
                    rfl
                  rw [if_neg hh2, if_pos hh1, hbar]
                  refine text_piece hKr (by rw [← hK]; exact hh1) fun h0 => ?_
                  unfold errN at he
                  rw [if_neg (by omega), if_neg (by rintro ⟨_, h⟩; have := ht hh1; omega), if_pos ⟨hh1, h1, h0⟩] at he
                  omega
                · have hh0 : hasK T.k = 0 := by
                    rcases hasK_four T.k with h | h | h | h
                    · exact h
                    · exact absurd h hh1
                    · exact absurd h hh2
                    · exfalso
                      unfold hasK at h
                      rw [if_neg (fun q => hh1 (by unfold hasK; rw [if_pos q])), if_neg (fun q => hh2 (by unfold hasK; rw [if_neg (fun q' => hh1 (by unfold hasK; rw [if_pos q'])), if_pos q])), if_neg (by omega)] at h
                      omega
                  have h12 : 12 ≤ K ∧ K ≤ 17 := by
                    unfold hasK at hh0
                    split at hh0
                    · omega
                    · split at hh0
                      · omega
                      · omega
                  have hbar : T.bar = mkP K ⟨#[]⟩ 0 ⟨#[]⟩ [] := by
                    rw [T.bar_eq, lst_nil hl0, hh0, hK]
                    rfl
                  rw [if_neg hh2, if_neg hh1, if_neg h20, hbar]
                  exact leaf_piece h12
/-- What is written of a right pattern is read as it, with what its kinds have. -/
theorem bar_cnt : ∀ T : PT, T.bar.cnt = T.cnt := mem_lst_ind fun T ih => by
  rw [T.bar_eq, mkP_cnt, cnt_lst T, csum_sum, csum_sum, List.map_map]
  exact congrArg (fun l => 1 + List.sum l) (List.map_congr_left fun x hx => ih x hx)
theorem bar_dep : ∀ T : PT, T.bar.dep = T.dep := mem_lst_ind fun T ih => by
  rw [T.bar_eq, mkP_dep, dep_lst T, dmax_map ih]
theorem wrong_nil {T : PT} (h : T.wrong = 0) : T.fits = true ∧ T.bad = 0 := by
  unfold PT.wrong at h
  by_cases hf : T.fits = true
  · rw [if_pos hf] at h; exact ⟨hf, h⟩
  · rw [if_neg hf] at h; omega
theorem read_txt {T : PT} (h : T.wrong = 0) (hl : T.txt.length ≤ 65536) : ∃ j, rdP ⟨T.txt.toArray⟩ = .ok (T.bar, j) := by
  obtain ⟨hf, hb⟩ := wrong_nil h
  obtain ⟨s, hs⟩ : ∃ s : ByteArray, s = ⟨T.txt.toArray⟩ := ⟨_, rfl⟩
  have hsz : s.size = T.txt.length := by rw [hs]; show T.txt.toArray.size = _; simp
  have hdep : T.dep ≤ 200 := by
    unfold PT.fits at hf
    rw [Bool.and_eq_true] at hf
    exact of_decide_eq_true hf.2
  obtain ⟨D, hD⟩ : ∃ D, D = 200 := ⟨_, rfl⟩
  have he : bat s (0 + T.txt.length) = 0 := bat_end s _ (by omega)
  have hn : nx s (0 + T.txt.length) = 0 := by rw [nx_here (by omega), he]
  have hk : sk s (0 + T.txt.length) = T.txt.length := by rw [sk_same (by omega), Nat.zero_add]
  have key := (rds_all (s := s) T hb).all D (by omega) 0 (by rw [hs]; exact at_all T.txt) (.inr (.inr he)) (.inl hn)
  rw [show (T.txt, T.bar).1 = T.txt from rfl, hk] at key
  have hA : rdA s = .ok (T.bar, T.txt.length) := by
    have e : rdA s = bnd (alD s D 0) fun p j => if j < s.size then .error (2, j) else .ok (p, j) := by rw [hD]; rfl
    rw [e, key, bnd_ok, if_neg (by omega)]
  refine ⟨T.txt.length, ?_⟩
  rw [← hs]
  unfold rdP
  rw [if_neg (by omega), hA, bnd_ok, if_pos]
  unfold PT.fits
  rw [bar_cnt, bar_dep]
  exact hf
end Go.Proofs.YtccnomomdfjpmaaDoor
