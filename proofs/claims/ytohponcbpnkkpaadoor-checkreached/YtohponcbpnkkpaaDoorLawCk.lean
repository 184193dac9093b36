/- CheckReached, the law's walk. -/
import Derived.Test.YtohponcbpnkkpaaDoorCkY
namespace Go.Proofs.YtohponcbpnkkpaaDoor
open Go.RowKit

def swS (S : SV) (b : Bool) : SV := if b = false ∧ S.k ≠ 7 then S.emp else S
def swapL (P : List SV) (r : List Bool) : List SV := List.zipWith swS P r
theorem swap_len {P : List SV} {r : List Bool} (h : r.length = P.length) : (swapL P r).length = P.length := by unfold swapL; rw [List.length_zipWith, h, Nat.min_self]
theorem swap_get {P : List SV} {r : List Bool} {i : Nat} {S : SV} {b : Bool} (hS : P[i]? = some S) (hb : r[i]? = some b) : (swapL P r)[i]? = some (swS S b) := by
  unfold swapL
  rw [List.getElem?_zipWith, hS, hb]
theorem swap_at {P : List SV} {r : List Bool} {i : Nat} {S' : SV} (h : (swapL P r)[i]? = some S') : ∃ S b, P[i]? = some S ∧ r[i]? = some b ∧ S' = swS S b := by
  unfold swapL at h
  rw [List.getElem?_zipWith] at h
  cases hS : P[i]? with
  | none => rw [hS] at h; cases h
  | some S =>
    cases hb : r[i]? with
    | none => rw [hS, hb] at h; cases h
    | some b => rw [hS, hb] at h; exact ⟨S, b, rfl, rfl, (Option.some.inj h).symm⟩
theorem swap_all {P : List SV} (h : (lookS P).er = 0) : (lookS (swapL P (reachS P (lookS P)))).er = 0 ∧ reachS (swapL P (reachS P (lookS P))) (lookS (swapL P (reachS P (lookS P)))) = reachS P (lookS P) := by
  have hl : P.length = (swapL P (reachS P (lookS P))).length := (swap_len (reach_len P _)).symm
  have hsw : ∀ j S S', P[j]? = some S → (swapL P (reachS P (lookS P)))[j]? = some S' → Swap j S S' := fun j S S' hS hS' => by
    obtain ⟨A, b, hA, hb, rfl⟩ := swap_at hS'
    rw [hS] at hA
    obtain rfl := Option.some.inj hA
    unfold swS
    split
    · rename_i q; exact .inr ⟨rfl, q.2⟩
    · exact .inl rfl
  refine ⟨by rw [look_swap hl hsw h]; exact h, reach_swap hl hsw h fun j S S' hS hS' hr => ?_⟩
  obtain ⟨A, b, hA, hb, rfl⟩ := swap_at hS'
  rw [hS] at hA
  obtain rfl := Option.some.inj hA
  rw [hr] at hb
  obtain rfl := Option.some.inj hb
  exact if_neg fun q => by cases q.1
theorem emp_in {S : SV} {w : World} (h : S.In w) : S.emp.In w := ⟨⟨h.txt.1, Nat.zero_le _, Nat.zero_le _, Nat.zero_le _, Nat.zero_le _, Nat.zero_le _⟩, nul_in w, nul_in w, nul_in w, zNL_in w, zNL_in w⟩
theorem sw_in {S : SV} {b : Bool} {w : World} (h : S.In w) : (swS S b).In w := by
  unfold swS
  split
  · exact emp_in h
  · exact h
def cT (S : SV) : List Value := S.cells.toList
theorem cT_len (S : SV) : (cT S).length = 24 := sv_size S
theorem cT_one : ∀ (S : SV), ∀ u ∈ cT S, u.oneCell' = true := fun S u hu => (Array.all_eq_true_iff_forall_mem.1 (sv_one S)) u (by simpa [cT] using hu)
theorem stmtRow : (Tryd.prog.info? 41).map (fun i => (i.zero, i.size, i.bytes)) = some (some (.agg #[.string ⟨#[]⟩, .int .i64 0, .int .i64 0, .string ⟨#[]⟩, .int .i64 0, .string ⟨#[]⟩, .slice none 0 0, .int .i64 0, .string ⟨#[]⟩, .int .i64 0, .string ⟨#[]⟩, .slice none 0 0, .int .i64 0, .string ⟨#[]⟩, .int .i64 0, .string ⟨#[]⟩, .slice none 0 0, .string ⟨#[]⟩, .string ⟨#[]⟩, .slice none 0 0, .slice none 0 0, .string ⟨#[]⟩, .string ⟨#[]⟩, .string ⟨#[]⟩]), 24, 368) := by kernel_rfl
theorem cT_cell {w : World} {g : Nat} {S : SV} (h : w.heap[g]? = some (.cells S.cells 41 (0, 0))) : ∀ k u, (cT S)[k]? = some u → w.cell? ⟨g, k, none⟩ = some u := fun k u hu => by
  rw [cell_of_row _ _ _ _ _ _ h, ← Array.getElem?_toList]; exact hu
theorem fold24 : ∀ (L : List Value) (_ : L.length = 24), List.foldl (fun (cs : Array Value) (x : Value × Nat) => cs.setIfInBounds x.snd x.fst) #[.string ⟨#[]⟩, .int .i64 0, .int .i64 0, .string ⟨#[]⟩, .int .i64 0, .string ⟨#[]⟩, .slice none 0 0, .int .i64 0, .string ⟨#[]⟩, .int .i64 0, .string ⟨#[]⟩, .slice none 0 0, .int .i64 0, .string ⟨#[]⟩, .int .i64 0, .string ⟨#[]⟩, .slice none 0 0, .string ⟨#[]⟩, .string ⟨#[]⟩, .slice none 0 0, .slice none 0 0, .string ⟨#[]⟩, .string ⟨#[]⟩, .string ⟨#[]⟩] L.zipIdx = L.toArray
  | [x0, x1, x2, x3, x4, x5, x6, x7, x8, x9, x10, x11, x12, x13, x14, x15, x16, x17, x18, x19, x20, x21, x22, x23], _ => by kernel_rfl
/-- A row of statements of the call's own is a program. -/
theorem row_prog {w : World} {B : Nat} {v : Value} {P : List SV} (h : Row w B 41 24 cT v P) (hS : ∀ S ∈ P, ∀ W, Below w.heap.size w W → S.In W) : ∃ V : PV, v = V.v P.length ∧ ∀ W, Below w.heap.size w W → PIn W V P := by
  obtain ⟨a, cap, rfl, hn, hc⟩ := h.len
  rcases Nat.eq_zero_or_pos P.length with h0 | h0
  · refine ⟨⟨a, 0, 0, cap⟩, rfl, fun W q => ⟨hc, ?_, fun hp => by omega, fun i S hi => by have := (List.getElem?_eq_some_iff.1 hi).1; omega⟩⟩
    rcases h.2 with ⟨e, _⟩ | ⟨g, cap', cur, e, _, _, h1, h2, _⟩
    · injection e with _ _ e3; subst e3; exact Nat.zero_le _
    · injection e with _ _ e3; subst e3; exact h2
  · obtain ⟨g, cap', hv, h1, h2⟩ := h.form (fun e => by rw [e] at h0; simp at h0)
    injection hv with e1 _ e3
    subst e1 e3
    refine ⟨⟨some ⟨g, 0, none⟩, g, 0, cap⟩, rfl, fun W q => ⟨h1, h2, fun _ => rfl, fun i S hi => ⟨fun j u hj => ?_, hS S (List.mem_of_getElem? hi) W q⟩⟩⟩
    have := cell_later q (h.cell cT_len rfl hi (show (cT S)[j]? = some u from hj))
    rw [show (0 : Nat) + i * 24 + j = i * 24 + j by omega]
    exact this
set_option maxRecDepth 100000 in
set_option maxHeartbeats 8000000 in
theorem checkReached_walk (V : PV) (P : List SV) (w : World) (hX : ShapesX w) (hP : Shapes w) (hPr : PIn w V P) (hlt : ∀ W, Below w.heap.size w W → PIn W V P) :
    Calls Tryd.prog 4 #[V.v P.length] w fun e w' => e = .returned (.bool true) ∧ Below w.heap.size w w' := by
  have HAL := hide (alive11_any w hX hP)
  have HEN := hide (fun W (q : Below w.heap.size w W) => (⟨fun W' q' => hlt W' (bnext q q'), fun W' q' => (hX.later q).later q', fun W' q' => (hP.later q).later q'⟩ : Env W.heap.size W V P))
  have HSX := hide (fun W (q : Below w.heap.size w W) => And.intro (hX.later q) (hP.later q))
  have HPI := hide hlt
  have hmx := hPr.max
  unfold maxLen at hmx
  have hcap := hPr.cap
  have HAT := hide hPr.at_
  clear hX hP hPr hlt
  obtain ⟨lv, hlv⟩ : ∃ lv, lv = V.v P.length := ⟨_, rfl⟩
  go_enter Tryd.func4, Tryd.ntmps4
  go_wp2_with fail
  refine (unhide HAL).mono ?_
  rintro e w1 ⟨rfl, hb1⟩
  have HB1 := hide hb1
  have HRE := hide (reached_any w1 V P (unhide HEN w1 hb1))
  clear hb1 HAL
  go_wp2_with fail
  refine (unhide HRE).mono ?_
  rintro e w2 ⟨hr, hb2⟩
  have HB2 := hide (bnext (unhide HB1) hb2)
  clear hb2 HRE
  rcases hr with ⟨he, rfl⟩ | ⟨he, rb, rfl, hrb, hrB⟩
  · have q0 : ((lookS P).er != 0) = true := by rw [bne, beq_eq_false_iff_ne.2 he]; rfl
    generalize (lookS P).er = er at *
    generalize (lookS P).at_ = at2 at *
    clear he
    go_wp2_with fail
    go_ret
    exact ⟨rfl, (unhide HB2).alloc (unhide HB2).size _⟩
  · have hP1000 := look_len he
    have hrl := reach_len P (lookS P)
    have HZR := hide (fun h => reach_zero (P := P) (c := lookS P) h)
    have HSW := hide (swap_all he)
    generalize hrr : reachS P (lookS P) = r at *
    clear he hrr
    obtain ⟨w3, hw3⟩ : ∃ w3, w3 = w2.alloc (.cells #[.int .i64 0, .int .i64 0] 25) := ⟨_, rfl⟩
    have hb3 : Below w2.heap.size w2 w3 := by rw [hw3]; exact (Below.refl _ _).alloc (Nat.le_refl _) _
    have hrb3 : w3.heap[rb]? = some (.cells (bV r) 4 (0, 0)) := row_below hrb hb3
    have hf3 : w3.heap[w2.heap.size]? = some (.cells #[.int .i64 0, .int .i64 0] 25 (0, 0)) := by rw [hw3]; exact at_new rfl
    have HB3 := hide (bnext (unhide HB2) hb3)
    have HRB := hide hrb3
    have HF3 := hide hf3
    have HRW := hide hw3
    have hb24 : ∀ W, Below w3.heap.size w3 W → ∀ (i : Nat) b, r[i]? = some b → W.cell? ⟨rb, i, none⟩ = some (.bool b) := fun W q i b hb => by
      rw [cell_of_row _ _ _ _ _ _ (row_below hrb3 q)]
      unfold bV
      rw [List.getElem?_toArray, List.getElem?_map, hb]; rfl
    have HCR := hide hb24
    clear hw3 hb3 hrb3 hf3 hb24 hrb
    unfold PV.v at hlv ⊢
    go_upto_region 6 with fail
    rw [show w2.alloc (.cells #[.int .i64 0, .int .i64 0] 25) = w3 from (unhide HRW).symm]
    go_cut [35] from 20 (fun s35 wx => s35 = .bool false ∧ wx = w3)
    case first =>
      rcases Nat.eq_zero_or_pos P.length with h0 | h0
      · have ql : ¬ (0 : Int) < (P.length : Int) := by omega
        clear h0
        go_wp2_with fail
        go_meet
        case rel => exact ⟨rfl, rfl⟩
      · have ql : (0 : Int) < (P.length : Int) := by omega
        have cr := unhide HCR w3 (Below.refl _ _) 0 true (unhide HZR h0)
        have hix := sl_idx (g := rb) (o := 0) (cap := P.length) (i := 0) (n := P.length) Tryd.underlying28 size_boolS h0
        rw [Nat.zero_add] at hix
        clear h0
        go_wp2_with fail
        go_meet
        case rel => exact ⟨rfl, rfl⟩
    case rest =>
      obtain ⟨rfl, rfl⟩ := hcut
      have HKL := hide (swap_len hrl)
      generalize hkk : swapL P r = K at *
      have HKK := hide hkk
      clear hkk
      go_wp2_with fail
      go_loopw [5, 38] (fun v j wr => ∃ k : Nat, k ≤ P.length ∧ j = .int .i64 (k : Int) ∧ Hid (Row wr wc.heap.size 41 24 cT v (K.take k) ∧ Below wc.heap.size wc wr)) (fun _ j _ => P.length - (intOf j).toNat)
      case atStart => exact ⟨0, by omega, rfl, World.ownsRow_nil wc wc.heap.size _ 24, Below.refl _ _⟩
      case round =>
        obtain ⟨k, hk, rfl, HI⟩ := hrel
        rcases Nat.lt_or_ge k P.length with hlt | hge
        · obtain ⟨S, hS⟩ : ∃ S, P[k]? = some S := ⟨P[k], List.getElem?_eq_getElem _⟩
          obtain ⟨b, hb⟩ : ∃ b, r[k]? = some b := ⟨r[k]'(by omega), List.getElem?_eq_getElem _⟩
          have HTK := hide (show K.take (k + 1) = K.take k ++ [swS S b] by rw [← unhide HKK, List.take_add_one, swap_get hS hb]; rfl)
          have hbw := bnext (unhide HB3) (unhide HI).2
          have hpm := unhide HPI wr hbw
          have hat := hpm.at_ (by omega)
          have HRG := hide (hpm.row k S hS).1
          have hix := idx24 (g := V.gb) (o := V.ob) (cap := V.cap) (n := P.length) (i := k) hlt
          rw [← hat] at hix
          have cr := unhide HCR wr (unhide HI).2 k b hb
          have hixb := sl_idx (g := rb) (o := 0) (cap := P.length) (i := k) (n := P.length) Tryd.underlying28 size_boolS hlt
          rw [Nat.zero_add] at hixb
          have hD24 : S.cells.toList.length = 24 := sv_size S
          have HON := hide (sv_one S)
          have HCC := hide (show S.cells.toList[0]? = some (.string S.lab) ∧ S.cells.toList[1]? = some (.int .i64 S.k) from ⟨rfl, rfl⟩)
          obtain ⟨L, hL⟩ : ∃ L, L = S.cells.toList := ⟨_, rfl⟩
          have hLa : S.cells = L.toArray := by rw [hL]
          rw [← hL] at HRG hD24 HCC
          rw [hLa] at HON
          have HLA := hide hLa
          obtain ⟨w4, hw4⟩ : ∃ w4, w4 = wr.alloc (.cells L.toArray 41) := ⟨_, rfl⟩
          have hb4 : Below wr.heap.size wr w4 := by rw [hw4]; exact (Below.refl _ _).alloc (Nat.le_refl _) _
          have hr4 : w4.heap[wr.heap.size]? = some (.cells L.toArray 41 (0, 0)) := by rw [hw4]; exact at_new rfl
          have hz4 : w4.heap.size = wr.heap.size + 1 := by rw [hw4, World.size_alloc]
          have d0 : w4.cell? ⟨wr.heap.size, 0, none⟩ = some (.string S.lab) := by rw [cell_of_row _ _ _ _ _ _ hr4, List.getElem?_toArray]; exact (unhide HCC).1
          have d1 : w4.cell? ⟨wr.heap.size, 1, none⟩ = some (.int .i64 S.k) := by rw [cell_of_row _ _ _ _ _ _ hr4, List.getElem?_toArray]; exact (unhide HCC).2
          have cr4 := cell_later hb4 cr
          have HR4 := hide hr4
          have HB4 := hide hb4
          have HRW4 := hide hw4
          have HZ4 := hide hz4
          have hkk : (k : Int) < (P.length : Int) := by omega
          clear hS hb hpm hat hL hLa hw4 hb4 hr4 hz4 hbw cr
          have HTAIL := hide (show ∀ (X : Array Value) (S' : SV) (wX : World) (v : Value), X = S'.cells → swS S b = S' → Below wr.heap.size wr wX → wX.heap.size = wr.heap.size + 1 → Row wr wc.heap.size 41 24 cT v (K.take k) → Row (wX.alloc (.cells X 41)) wc.heap.size 41 24 cT v (K.take k) ∧ wc.heap.size ≤ (wX.alloc (.cells X 41)).heap.size ∧ (∀ j u, (cT S')[j]? = some u → (wX.alloc (.cells X 41)).cell? ⟨wX.heap.size, j, none⟩ = some u) ∧ (K.take k).length ≤ 1000000 ∧ ∀ v' w6, Row w6 wc.heap.size 41 24 cT v' (K.take k ++ [S']) → (wX.alloc (.cells X 41)).grownBy w6 v.ownBlock → Row w6 wc.heap.size 41 24 cT v' (K.take (k + 1)) ∧ Below wc.heap.size wc w6 from fun X S' wX v hX hS' hbX hzX hrow => by
            have hbY : Below wr.heap.size wr (wX.alloc (.cells X 41)) := hbX.alloc hbX.size _
            have hrY := hrow.later hbY
            refine ⟨hrY, ?_, cT_cell (by rw [← hX]; exact at_new rfl), by rw [List.length_take]; omega, fun v' w6 h1 h2 => ⟨by rw [unhide HTK, hS']; exact h1, below_grownR (bnext (unhide HI).2 hbY) hrY (Nat.le_refl _) h2⟩⟩
            have := (unhide HI).2.size
            rw [World.size_alloc]; omega)
          have hfold := fold24 L hD24
          cases b
          · by_cases h7 : S.k = 7
            · have q7 : (S.k == 7) = true := by rw [beq_iff_eq]; exact h7
              have r7 : (S.k != 7) = false := by rw [bne, q7]; rfl
              have HT := hide (unhide HTAIL L.toArray S w4 _ (unhide HLA).symm (by unfold swS; rw [if_neg (fun q => q.2 h7)]) (unhide HB4) (unhide HZ4) (unhide HI).1)
              clear h7
              go_wp2_with (first
                | (refine wpList_load_mid rfl 41 _ rfl V.gb (V.ob + k * 24) rfl L _ (unhide HRG) Tryd.underlying41 rfl (size_stmt.trans (by rw [hD24])) ?_)
                | (refine wpList_store_row rfl 41 _ _ rfl wr.heap.size L.toArray rfl rfl 41 _ (at_new rfl) (size_stmt.trans (by rw [show L.toArray.size = 24 from List.size_toArray.trans hD24])) (by rw [show L.toArray.size = 24 from List.size_toArray.trans hD24]; rfl) (unhide HON) ?_; rw [World.setRow_alloc_new]; rw [show wr.alloc (.cells L.toArray 41) = w4 from (unhide HRW4).symm])
                | (refine wpList_load_row rfl 41 _ rfl wr.heap.size rfl 41 L.toArray (0, 0) _ (unhide HR4) Tryd.underlying41 rfl (size_stmt.trans (by rw [show L.toArray.size = 24 from List.size_toArray.trans hD24])) ?_)
                | (at_builtin; refine wpList_row Tryd.underlying22 stmtRow rfl (by decide) (by decide) cT_len cT_one rfl _ _ rfl (unhide HT).1 (unhide HT).2.1 S w4.heap.size 1 rfl rfl (unhide HT).2.2.1 (unhide HT).2.2.2.1 ?_; intro v' w6 hrow hgrow _)
                | fail)
              have HZ := hide ((unhide HT).2.2.2.2 v' w6 hrow hgrow)
              clear hrow hgrow
              exact ⟨⟨k + 1, by omega, by go_num, unhide HZ⟩, by simp [intOf]; omega⟩
            · have q7 : (S.k == 7) = false := by rw [beq_eq_false_iff_ne]; exact h7
              have r7 : (S.k != 7) = true := by rw [bne, q7]; rfl
              have hE24 : S.emp.cells.toList.length = 24 := sv_size S.emp
              have HONE := hide (sv_one S.emp)
              obtain ⟨L5, hL5⟩ : ∃ L5, L5 = S.emp.cells.toList := ⟨_, rfl⟩
              have hE : S.emp.cells = L5.toArray := by rw [hL5]
              obtain ⟨w5, hw5⟩ : ∃ w5, w5 = w4.setRow wr.heap.size S.emp.cells := ⟨_, rfl⟩
              have hb5 : Below wr.heap.size wr w5 := by rw [hw5]; exact below_row1 (unhide HB4) (Nat.le_refl _)
              have hr5 : w5.heap[wr.heap.size]? = some (.cells L5.toArray 41 (0, 0)) := by rw [hw5, ← hE]; exact row_setRow (unhide HR4)
              have hz5 : w5.heap.size = wr.heap.size + 1 := by rw [hw5]; simp only [World.setRow, Array.size_modify]; exact unhide HZ4
              have HT := hide (unhide HTAIL L5.toArray S.emp w5 _ hE.symm (by unfold swS; rw [if_pos ⟨rfl, h7⟩]) hb5 hz5 (unhide HI).1)
              have HR5 := hide hr5
              have HRW5 := hide hw5
              rw [← hL5] at hE24
              have hfold5 := fold24 L5 hE24
              clear h7 hw5 hb5 hr5 hz5 hE hL5
              go_wp2_with (first
                | (refine wpList_load_mid rfl 41 _ rfl V.gb (V.ob + k * 24) rfl L _ (unhide HRG) Tryd.underlying41 rfl (size_stmt.trans (by rw [hD24])) ?_)
                | (refine wpList_store_row rfl 41 _ _ rfl wr.heap.size L.toArray rfl rfl 41 _ (at_new rfl) (size_stmt.trans (by rw [show L.toArray.size = 24 from List.size_toArray.trans hD24])) (by rw [show L.toArray.size = 24 from List.size_toArray.trans hD24]; rfl) (unhide HON) ?_; rw [World.setRow_alloc_new]; rw [show wr.alloc (.cells L.toArray 41) = w4 from (unhide HRW4).symm])
                | (refine wpList_store_row rfl 41 _ _ rfl wr.heap.size S.emp.cells rfl rfl 41 L.toArray (unhide HR4) (size_stmt.trans (by rw [sv_size S.emp])) (by rw [show L.toArray.size = 24 from List.size_toArray.trans hD24, sv_size S.emp]) (unhide HONE) ?_; rw [show w4.setRow wr.heap.size S.emp.cells = w5 from (unhide HRW5).symm])
                | (refine wpList_load_row rfl 41 _ rfl wr.heap.size rfl 41 L5.toArray (0, 0) _ (unhide HR5) Tryd.underlying41 rfl (size_stmt.trans (by rw [show L5.toArray.size = 24 from List.size_toArray.trans hE24])) ?_)
                | (at_builtin; refine wpList_row Tryd.underlying22 stmtRow rfl (by decide) (by decide) cT_len cT_one rfl _ _ rfl (unhide HT).1 (unhide HT).2.1 S.emp w5.heap.size 1 rfl rfl (unhide HT).2.2.1 (unhide HT).2.2.2.1 ?_; intro v' w6 hrow hgrow _)
                | fail)
              have HZ := hide ((unhide HT).2.2.2.2 v' w6 hrow hgrow)
              clear hrow hgrow
              exact ⟨⟨k + 1, by omega, by go_num, unhide HZ⟩, by simp [intOf]; omega⟩
          · have HT := hide (unhide HTAIL L.toArray S w4 _ (unhide HLA).symm (by unfold swS; rw [if_neg (fun q => by cases q.1)]) (unhide HB4) (unhide HZ4) (unhide HI).1)
            go_wp2_with (first
              | (refine wpList_load_mid rfl 41 _ rfl V.gb (V.ob + k * 24) rfl L _ (unhide HRG) Tryd.underlying41 rfl (size_stmt.trans (by rw [hD24])) ?_)
              | (refine wpList_store_row rfl 41 _ _ rfl wr.heap.size L.toArray rfl rfl 41 _ (at_new rfl) (size_stmt.trans (by rw [show L.toArray.size = 24 from List.size_toArray.trans hD24])) (by rw [show L.toArray.size = 24 from List.size_toArray.trans hD24]; rfl) (unhide HON) ?_; rw [World.setRow_alloc_new]; rw [show wr.alloc (.cells L.toArray 41) = w4 from (unhide HRW4).symm])
              | (refine wpList_load_row rfl 41 _ rfl wr.heap.size rfl 41 L.toArray (0, 0) _ (unhide HR4) Tryd.underlying41 rfl (size_stmt.trans (by rw [show L.toArray.size = 24 from List.size_toArray.trans hD24])) ?_)
              | (at_builtin; refine wpList_row Tryd.underlying22 stmtRow rfl (by decide) (by decide) cT_len cT_one rfl _ _ rfl (unhide HT).1 (unhide HT).2.1 S w4.heap.size 1 rfl rfl (unhide HT).2.2.1 (unhide HT).2.2.2.1 ?_; intro v' w6 hrow hgrow _)
              | fail)
            have HZ := hide ((unhide HT).2.2.2.2 v' w6 hrow hgrow)
            clear hrow hgrow
            exact ⟨⟨k + 1, by omega, by go_num, unhide HZ⟩, by simp [intOf]; omega⟩
        · obtain rfl : k = P.length := by omega
          have hrow := (unhide HI).1
          rw [List.take_of_length_le (by rw [unhide HKL]; exact Nat.le_refl _)] at hrow
          have hbw := bnext (unhide HB3) (unhide HI).2
          obtain ⟨V2, rfl, hV2⟩ := row_prog hrow (fun S' hS' W q => by
            rw [← unhide HKK] at hS'
            obtain ⟨i, hi⟩ := List.getElem?_of_mem hS'
            obtain ⟨A, b, hA, -, rfl⟩ := swap_at hi
            exact sw_in ((unhide HPI W (bnext hbw q)).row i A hA).2)
          have HRE := hide (reached_any wr V2 K ⟨hV2, fun W q => (unhide HSX W (bnext hbw q)).1, fun W q => (unhide HSX W (bnext hbw q)).2⟩)
          have HBW := hide hbw
          clear hrow hbw hV2
          go_wp2_with fail
          refine (unhide HRE).mono ?_
          rintro e w7 ⟨hr7, hb7⟩
          rcases hr7 with ⟨he, -⟩ | ⟨-, rb7, rfl, hrb7, -⟩
          · exact absurd (unhide HSW).1 he
          · rw [(unhide HSW).2] at hrb7
            have hf7 : w7.heap[w2.heap.size]? = some (.cells #[.int .i64 0, .int .i64 0] 25 (0, 0)) := row_below (row_below (unhide HF3) (unhide HI).2) hb7
            rw [unhide HKL]
            have hra : w7.heap[rb]? = some (.cells (bV r) 4 (0, 0)) := row_below (row_below (unhide HRB) (unhide HI).2) hb7
            have hn1 : rb ≠ w2.heap.size := row_ne hra hf7 (by decide)
            have hn2 : rb7 ≠ w2.heap.size := row_ne hrb7 hf7 (by decide)
            have g0 : w7.cell? ⟨w2.heap.size, 0, none⟩ = some (.int .i64 0) := by rw [cell_of_row _ _ _ _ _ _ hf7]; rfl
            have g1 : w7.cell? ⟨w2.heap.size, 1, none⟩ = some (.int .i64 0) := by rw [cell_of_row _ _ _ _ _ _ hf7]; rfl
            have r0 := frozen_of_row w7 w2.heap.size 0 _ _ hf7
            have r1 := frozen_of_row w7 w2.heap.size 1 _ _ hf7
            have hw2 : w.heap.size ≤ w2.heap.size := (unhide HB2).size
            have HW8 := hide (show ((w7.setCell ⟨w2.heap.size, 0, none⟩ (.int .i64 0)).setCell ⟨w2.heap.size, 1, none⟩ (.int .i64 0)).heap[rb]? = some (.cells (bV r) 4 (0, 0)) ∧ ((w7.setCell ⟨w2.heap.size, 0, none⟩ (.int .i64 0)).setCell ⟨w2.heap.size, 1, none⟩ (.int .i64 0)).heap[rb7]? = some (.cells (bV r) 4 (0, 0)) ∧ Below w.heap.size w ((w7.setCell ⟨w2.heap.size, 0, none⟩ (.int .i64 0)).setCell ⟨w2.heap.size, 1, none⟩ (.int .i64 0)) from
              ⟨(heap_setCell_other _ ⟨w2.heap.size, 1, none⟩ rb _ hn1).trans ((heap_setCell_other _ ⟨w2.heap.size, 0, none⟩ rb _ hn1).trans hra), (heap_setCell_other _ ⟨w2.heap.size, 1, none⟩ rb7 _ hn2).trans ((heap_setCell_other _ ⟨w2.heap.size, 0, none⟩ rb7 _ hn2).trans hrb7), below_cell (below_cell (bnext (unhide HBW) hb7) hw2 0 _) hw2 1 _⟩)
            clear hra hrb7 hf7 hb7 hn1 hn2 HRE
            go_wp2_with fail
            go_loopw [78] (fun j wq => ∃ i : Nat, i ≤ P.length ∧ j = .int .i64 (i : Int) ∧ Hid (wq.heap[rb]? = some (.cells (bV r) 4 (0, 0)) ∧ wq.heap[rb7]? = some (.cells (bV r) 4 (0, 0)) ∧ Below w.heap.size w wq)) (fun j _ => P.length - (intOf j).toNat)
            case atStart => exact ⟨0, by omega, rfl, unhide HW8⟩
            case round =>
              obtain ⟨i, hi, rfl, HJ⟩ := hrel
              rcases Nat.lt_or_ge i P.length with hil | hig
              · obtain ⟨b, hb⟩ : ∃ b, r[i]? = some b := ⟨r[i]'(by omega), List.getElem?_eq_getElem _⟩
                have ca : wr.cell? ⟨rb, i, none⟩ = some (.bool b) := by
                  rw [cell_of_row _ _ _ _ _ _ (unhide HJ).1]
                  unfold bV
                  rw [List.getElem?_toArray, List.getElem?_map, hb]; rfl
                have cb : wr.cell? ⟨rb7, i, none⟩ = some (.bool b) := by
                  rw [cell_of_row _ _ _ _ _ _ (unhide HJ).2.1]
                  unfold bV
                  rw [List.getElem?_toArray, List.getElem?_map, hb]; rfl
                have hia := sl_idx (g := rb) (o := 0) (cap := P.length) (i := i) (n := P.length) Tryd.underlying28 size_boolS hil
                have hib := sl_idx (g := rb7) (o := 0) (cap := P.length) (i := i) (n := P.length) Tryd.underlying28 size_boolS hil
                rw [Nat.zero_add] at hia hib
                have hii : (i : Int) < (P.length : Int) := by omega
                clear hb
                go_wp2_with fail
                go_quiet (fail)
                have HZ := hide (show (wr.drewN nq).heap[rb]? = some (.cells (bV r) 4 (0, 0)) ∧ (wr.drewN nq).heap[rb7]? = some (.cells (bV r) 4 (0, 0)) ∧ Below w.heap.size w (wr.drewN nq) from ⟨by rw [World.heap_drewN]; exact (unhide HJ).1, by rw [World.heap_drewN]; exact (unhide HJ).2.1, below_drewN (unhide HJ).2.2 nq⟩)
                generalize wr.drewN nq = wz at *
                cases b
                · go_wp2_with fail
                  exact ⟨⟨i + 1, by omega, by go_num, unhide HZ⟩, by simp [intOf]; omega⟩
                · go_wp2_with fail
                  exact ⟨⟨i + 1, by omega, by go_num, unhide HZ⟩, by simp [intOf]; omega⟩
              · obtain rfl : i = P.length := by omega
                go_wp2_with fail
                go_ret
                exact ⟨rfl, (unhide HJ).2.2⟩
end Go.Proofs.YtohponcbpnkkpaaDoor
