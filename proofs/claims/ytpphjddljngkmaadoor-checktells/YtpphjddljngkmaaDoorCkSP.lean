/- The checker: its rounds, and all of it. -/
import Derived.Test.YtpphjddljngkmaaDoorCkRP
namespace Go.Proofs.YtpphjddljngkmaaDoor
open Go.RowKit

theorem rnd_drop {step : CS → Int → SV → CS} {P : List SV} {k : Nat} {S : SV} {c c' : CS} (h : rnd step P 0 c = rnd step (P.drop k) k c') (hS : P[k]? = some S) : (c'.er = 0 → rnd step P 0 c = rnd step (P.drop (k + 1)) (k + 1) (step c' (k : Int) S)) ∧ (c'.er ≠ 0 → rnd step P 0 c = c') := by
  have hk : k < P.length := (List.getElem?_eq_some_iff.1 hS).1
  have e : P.drop k = S :: P.drop (k + 1) := by
    rw [List.drop_eq_getElem_cons hk]
    congr 1
    rw [List.getElem?_eq_getElem hk] at hS
    exact Option.some.inj hS
  rw [h, e]
  exact ⟨fun q => if_pos q, fun q => if_neg q⟩
theorem alone_all : ∀ (l : List SV) (i : Nat) (c : CS), (rnd CS.alone l i c).er = 0 → ∀ S ∈ l, S.wrong = 0
  | [], _, _, _, S, hS => by cases hS
  | A :: l, i, c, h, S, hS => by
    by_cases h0 : c.er = 0
    · have e1 : rnd CS.alone (A :: l) i c = rnd CS.alone l (i + 1) (c.alone (i : Int) A) := if_pos h0
      rw [e1] at h
      by_cases h1 : (c.alone (i : Int) A).er = 0
      · rcases List.mem_cons.1 hS with rfl | hS
        · exact (tell_ok (show (c.tell S.wrong (i : Int)).er = 0 from h1)).2.2
        · exact alone_all l (i + 1) _ h S hS
      · rw [rnd_stop _ _ _ h1] at h; exact absurd h h1
    · rw [rnd_stop _ _ _ h0] at h; exact absurd h h0
theorem eight {S : SV} (h : S.wrong = 0) (hk : S.k = 7) : S.ps.l.length ≤ 8 ∧ S.ls.l.length ≤ 8 := by
  unfold SV.wrong at h
  split at h
  · split at h
    · cases h
    · rw [SV.kndE, hk, if_neg (by decide), if_neg (by decide), if_neg (by decide), if_neg (by decide), if_neg (by decide), if_neg (by decide), if_pos rfl] at h
      unfold SV.dfE at h
      split at h
      · cases h
      · rename_i q
        have : ¬ (8 < S.ps.l.length ∨ 8 < S.ls.l.length) := fun r => q ⟨h, r⟩
        omega
  · cases h
set_option maxRecDepth 100000 in
set_option maxHeartbeats 4000000 in
theorem round_A (z : Nat) (V : PV) (P : List SV) (R : Nat → CS → World → Prop) (step : CS → Int → SV → CS)
    (hR : ∀ i c W, R i c W → W.cell? ⟨z, 4, none⟩ = some (V.v P.length) ∧ W.cell? ⟨z, 0, none⟩ = some (.int .i64 c.er) ∧ PIn W V P)
    (hal : ∀ i c W o, R i c W → R i c (World.alloc W o))
    (hdo : ∀ i c W S, P[i]? = some S → c.er = 0 → R i c W → Calls Tryd.prog 22 #[.pointer (some ⟨z, 0, none⟩), .int .i64 (i : Int), S.v] W fun e w' => e = .returned (.tuple #[]) ∧ R (i + 1) (step c (i : Int) S) w')
    (c : CS) (w : World) (h : R 0 c w) :
    Calls Tryd.prog 21 #[.pointer (some ⟨z, 0, none⟩), .func (.func 22) #[.pointer (some ⟨z, 0, none⟩)] #[]] w fun e w' => e = .returned (.tuple #[]) ∧ ∃ k, R k (rnd step P 0 c) w' := by
  have HR := hide hR
  have HAL := hide hal
  have HDO := hide hdo
  have H0 := hide h
  have c4 := (hR 0 c w h).1
  have hpm := (hR 0 c w h).2.2
  have hmx := hpm.max
  unfold maxLen at hmx
  have hcap := hpm.cap
  unfold PV.v at c4
  have HRN : Hid (rnd step P 0 c = rnd step (P.drop 0) 0 c) := hide (rfl)
  obtain ⟨RR, hRR⟩ : ∃ RR, RR = rnd step P 0 c := ⟨_, rfl⟩
  have HRR := hide hRR
  have HRN2 : Hid (RR = rnd step (P.drop 0) 0 c) := hide (by rw [hRR]; rfl)
  rw [← hRR]
  clear hR hal hdo h hpm hRR HRN
  go_enter Tryd.func21, Tryd.ntmps21
  go_wp2_with fail
  go_loopw [11] (fun j wr => ∃ (k : Nat) (c' : CS), k ≤ P.length ∧ j = .int .i64 (k : Int) ∧ Hid (R k c' wr ∧ rnd step P 0 c = rnd step (P.drop k) k c')) (fun j _ => P.length - (intOf j).toNat)
  case atStart => exact ⟨0, c, by omega, rfl, unhide H0, rfl⟩
  case round =>
    obtain ⟨k, c', hk, rfl, HI⟩ := hrel
    clear c4
    rcases Nat.lt_or_ge k P.length with hlt | hge
    · obtain ⟨S, hS⟩ : ∃ S, P[k]? = some S := ⟨P[k], List.getElem?_eq_getElem _⟩
      obtain ⟨-, c0, hpm⟩ := unhide HR k c' wr (unhide HI).1
      have hzl : z < wr.heap.size := block_lt_of_cell c0
      have hat := hpm.at_ (by omega)
      have hrg := (hpm.row k S hS).1
      have HRG := hide hrg
      have hix := idx24 (g := V.gb) (o := V.ob) (cap := V.cap) (n := P.length) (i := k) hlt
      rw [← hat] at hix
      have HST := hide (rnd_drop (unhide HI).2 hS)
      have HD := hide (fun W (q : R k c' W) (e : c'.er = 0) => unhide HDO k c' W S hS e q)
      unfold SV.v at HD
      have HON := hide (sv_one S)
      have hD24 : S.cells.toList.length = 24 := sv_size S
      obtain ⟨L, hL⟩ : ∃ L, L = S.cells.toList := ⟨_, rfl⟩
      have hLa : S.cells = L.toArray := by rw [hL]
      rw [← hL] at HRG hD24
      rw [hLa] at HON HD
      have HA := hide (unhide HAL k c' wr (.cells L.toArray 49) (unhide HI).1)
      have hkk : (k : Int) < (P.length : Int) := by omega
      generalize step c' (k : Int) S = cn at *
      clear hpm hrg hL hLa hS hat
      by_cases he : c'.er = 0
      · have q0 : (c'.er == 0) = true := bt he
        have q1 : (c'.er != 0) = false := by rw [bne, q0]; rfl
        have HE := hide he
        have HN := hide ((unhide HST).1 he)
        clear he HST
        go_wp2_with (first
          | (refine wpList_load_mid rfl 49 _ rfl V.gb (V.ob + k * 24) rfl L _ (unhide HRG) Tryd.underlying49 rfl (size_stmt.trans (by rw [hD24])) ?_)
          | (refine wpList_store_row rfl 49 _ _ rfl wr.heap.size L.toArray rfl rfl 49 _ (at_new rfl) (size_stmt.trans (by rw [show L.toArray.size = 24 from List.size_toArray.trans hD24])) (by rw [show L.toArray.size = 24 from List.size_toArray.trans hD24]; rfl) (unhide HON) ?_; rw [World.setRow_alloc_new])
          | (refine wpList_load_row rfl 49 _ rfl wr.heap.size rfl 49 L.toArray (0, 0) _ (at_new rfl) Tryd.underlying49 rfl (size_stmt.trans (by rw [show L.toArray.size = 24 from List.size_toArray.trans hD24])) ?_)
          | fail)
        refine (unhide HD _ (unhide HA) (unhide HE)).mono ?_
        rintro e w2 ⟨rfl, hR2⟩
        have HR2 := hide hR2
        clear hR2
        go_wp2_with fail
        exact ⟨⟨k + 1, cn, by omega, by go_num, unhide HR2, unhide HN⟩, by simp [intOf]; omega⟩
      · have q0 : (c'.er == 0) = false := bn he
        have q1 : (c'.er != 0) = true := by rw [bne, q0]; rfl
        have HN := hide ((unhide HST).2 he)
        clear he HST
        go_wp2_with (first
          | (refine wpList_load_mid rfl 49 _ rfl V.gb (V.ob + k * 24) rfl L _ (unhide HRG) Tryd.underlying49 rfl (size_stmt.trans (by rw [hD24])) ?_)
          | (refine wpList_store_row rfl 49 _ _ rfl wr.heap.size L.toArray rfl rfl 49 _ (at_new rfl) (size_stmt.trans (by rw [show L.toArray.size = 24 from List.size_toArray.trans hD24])) (by rw [show L.toArray.size = 24 from List.size_toArray.trans hD24]; rfl) (unhide HON) ?_; rw [World.setRow_alloc_new])
          | (refine wpList_load_row rfl 49 _ rfl wr.heap.size rfl 49 L.toArray (0, 0) _ (at_new rfl) Tryd.underlying49 rfl (size_stmt.trans (by rw [show L.toArray.size = 24 from List.size_toArray.trans hD24])) ?_)
          | fail)
        refine bodyPost_ret (results_none rfl _ _ _) rfl ?_
        exact ⟨rfl, k, by rw [unhide HRR, unhide HN]; exact unhide HA⟩
    · obtain rfl : k = P.length := by omega
      have HN : Hid (rnd step P 0 c = c') := hide (by rw [(unhide HI).2, List.drop_length]; rfl)
      go_wp2_with fail
      go_end0
      exact ⟨rfl, P.length, by rw [unhide HRR, unhide HN]; exact (unhide HI).1⟩
set_option maxRecDepth 100000 in
set_option maxHeartbeats 4000000 in
theorem round_L (z : Nat) (V : PV) (P : List SV) (R : Nat → CS → World → Prop) (step : CS → Int → SV → CS)
    (hR : ∀ i c W, R i c W → W.cell? ⟨z, 4, none⟩ = some (V.v P.length) ∧ W.cell? ⟨z, 0, none⟩ = some (.int .i64 c.er) ∧ PIn W V P)
    (hal : ∀ i c W o, R i c W → R i c (World.alloc W o))
    (hdo : ∀ i c W S, P[i]? = some S → c.er = 0 → R i c W → Calls Tryd.prog 23 #[.pointer (some ⟨z, 0, none⟩), .int .i64 (i : Int), S.v] W fun e w' => e = .returned (.tuple #[]) ∧ R (i + 1) (step c (i : Int) S) w')
    (c : CS) (w : World) (h : R 0 c w) :
    Calls Tryd.prog 21 #[.pointer (some ⟨z, 0, none⟩), .func (.func 23) #[.pointer (some ⟨z, 0, none⟩)] #[]] w fun e w' => e = .returned (.tuple #[]) ∧ ∃ k, R k (rnd step P 0 c) w' := by
  have HR := hide hR
  have HAL := hide hal
  have HDO := hide hdo
  have H0 := hide h
  have c4 := (hR 0 c w h).1
  have hpm := (hR 0 c w h).2.2
  have hmx := hpm.max
  unfold maxLen at hmx
  have hcap := hpm.cap
  unfold PV.v at c4
  have HRN : Hid (rnd step P 0 c = rnd step (P.drop 0) 0 c) := hide (rfl)
  obtain ⟨RR, hRR⟩ : ∃ RR, RR = rnd step P 0 c := ⟨_, rfl⟩
  have HRR := hide hRR
  have HRN2 : Hid (RR = rnd step (P.drop 0) 0 c) := hide (by rw [hRR]; rfl)
  rw [← hRR]
  clear hR hal hdo h hpm hRR HRN
  go_enter Tryd.func21, Tryd.ntmps21
  go_wp2_with fail
  go_loopw [11] (fun j wr => ∃ (k : Nat) (c' : CS), k ≤ P.length ∧ j = .int .i64 (k : Int) ∧ Hid (R k c' wr ∧ rnd step P 0 c = rnd step (P.drop k) k c')) (fun j _ => P.length - (intOf j).toNat)
  case atStart => exact ⟨0, c, by omega, rfl, unhide H0, rfl⟩
  case round =>
    obtain ⟨k, c', hk, rfl, HI⟩ := hrel
    clear c4
    rcases Nat.lt_or_ge k P.length with hlt | hge
    · obtain ⟨S, hS⟩ : ∃ S, P[k]? = some S := ⟨P[k], List.getElem?_eq_getElem _⟩
      obtain ⟨-, c0, hpm⟩ := unhide HR k c' wr (unhide HI).1
      have hzl : z < wr.heap.size := block_lt_of_cell c0
      have hat := hpm.at_ (by omega)
      have hrg := (hpm.row k S hS).1
      have HRG := hide hrg
      have hix := idx24 (g := V.gb) (o := V.ob) (cap := V.cap) (n := P.length) (i := k) hlt
      rw [← hat] at hix
      have HST := hide (rnd_drop (unhide HI).2 hS)
      have HD := hide (fun W (q : R k c' W) (e : c'.er = 0) => unhide HDO k c' W S hS e q)
      unfold SV.v at HD
      have HON := hide (sv_one S)
      have hD24 : S.cells.toList.length = 24 := sv_size S
      obtain ⟨L, hL⟩ : ∃ L, L = S.cells.toList := ⟨_, rfl⟩
      have hLa : S.cells = L.toArray := by rw [hL]
      rw [← hL] at HRG hD24
      rw [hLa] at HON HD
      have HA := hide (unhide HAL k c' wr (.cells L.toArray 49) (unhide HI).1)
      have hkk : (k : Int) < (P.length : Int) := by omega
      generalize step c' (k : Int) S = cn at *
      clear hpm hrg hL hLa hS hat
      by_cases he : c'.er = 0
      · have q0 : (c'.er == 0) = true := bt he
        have q1 : (c'.er != 0) = false := by rw [bne, q0]; rfl
        have HE := hide he
        have HN := hide ((unhide HST).1 he)
        clear he HST
        go_wp2_with (first
          | (refine wpList_load_mid rfl 49 _ rfl V.gb (V.ob + k * 24) rfl L _ (unhide HRG) Tryd.underlying49 rfl (size_stmt.trans (by rw [hD24])) ?_)
          | (refine wpList_store_row rfl 49 _ _ rfl wr.heap.size L.toArray rfl rfl 49 _ (at_new rfl) (size_stmt.trans (by rw [show L.toArray.size = 24 from List.size_toArray.trans hD24])) (by rw [show L.toArray.size = 24 from List.size_toArray.trans hD24]; rfl) (unhide HON) ?_; rw [World.setRow_alloc_new])
          | (refine wpList_load_row rfl 49 _ rfl wr.heap.size rfl 49 L.toArray (0, 0) _ (at_new rfl) Tryd.underlying49 rfl (size_stmt.trans (by rw [show L.toArray.size = 24 from List.size_toArray.trans hD24])) ?_)
          | fail)
        refine (unhide HD _ (unhide HA) (unhide HE)).mono ?_
        rintro e w2 ⟨rfl, hR2⟩
        have HR2 := hide hR2
        clear hR2
        go_wp2_with fail
        exact ⟨⟨k + 1, cn, by omega, by go_num, unhide HR2, unhide HN⟩, by simp [intOf]; omega⟩
      · have q0 : (c'.er == 0) = false := bn he
        have q1 : (c'.er != 0) = true := by rw [bne, q0]; rfl
        have HN := hide ((unhide HST).2 he)
        clear he HST
        go_wp2_with (first
          | (refine wpList_load_mid rfl 49 _ rfl V.gb (V.ob + k * 24) rfl L _ (unhide HRG) Tryd.underlying49 rfl (size_stmt.trans (by rw [hD24])) ?_)
          | (refine wpList_store_row rfl 49 _ _ rfl wr.heap.size L.toArray rfl rfl 49 _ (at_new rfl) (size_stmt.trans (by rw [show L.toArray.size = 24 from List.size_toArray.trans hD24])) (by rw [show L.toArray.size = 24 from List.size_toArray.trans hD24]; rfl) (unhide HON) ?_; rw [World.setRow_alloc_new])
          | (refine wpList_load_row rfl 49 _ rfl wr.heap.size rfl 49 L.toArray (0, 0) _ (at_new rfl) Tryd.underlying49 rfl (size_stmt.trans (by rw [show L.toArray.size = 24 from List.size_toArray.trans hD24])) ?_)
          | fail)
        refine bodyPost_ret (results_none rfl _ _ _) rfl ?_
        exact ⟨rfl, k, by rw [unhide HRR, unhide HN]; exact unhide HA⟩
    · obtain rfl : k = P.length := by omega
      have HN : Hid (rnd step P 0 c = c') := hide (by rw [(unhide HI).2, List.drop_length]; rfl)
      go_wp2_with fail
      go_end0
      exact ⟨rfl, P.length, by rw [unhide HRR, unhide HN]; exact (unhide HI).1⟩
set_option maxRecDepth 100000 in
set_option maxHeartbeats 4000000 in
theorem round_F (z : Nat) (V : PV) (P : List SV) (R : Nat → CS → World → Prop) (step : CS → Int → SV → CS)
    (hR : ∀ i c W, R i c W → W.cell? ⟨z, 4, none⟩ = some (V.v P.length) ∧ W.cell? ⟨z, 0, none⟩ = some (.int .i64 c.er) ∧ PIn W V P)
    (hal : ∀ i c W o, R i c W → R i c (World.alloc W o))
    (hdo : ∀ i c W S, P[i]? = some S → c.er = 0 → R i c W → Calls Tryd.prog 24 #[.pointer (some ⟨z, 0, none⟩), .int .i64 (i : Int), S.v] W fun e w' => e = .returned (.tuple #[]) ∧ R (i + 1) (step c (i : Int) S) w')
    (c : CS) (w : World) (h : R 0 c w) :
    Calls Tryd.prog 21 #[.pointer (some ⟨z, 0, none⟩), .func (.func 24) #[.pointer (some ⟨z, 0, none⟩)] #[]] w fun e w' => e = .returned (.tuple #[]) ∧ ∃ k, R k (rnd step P 0 c) w' := by
  have HR := hide hR
  have HAL := hide hal
  have HDO := hide hdo
  have H0 := hide h
  have c4 := (hR 0 c w h).1
  have hpm := (hR 0 c w h).2.2
  have hmx := hpm.max
  unfold maxLen at hmx
  have hcap := hpm.cap
  unfold PV.v at c4
  have HRN : Hid (rnd step P 0 c = rnd step (P.drop 0) 0 c) := hide (rfl)
  obtain ⟨RR, hRR⟩ : ∃ RR, RR = rnd step P 0 c := ⟨_, rfl⟩
  have HRR := hide hRR
  have HRN2 : Hid (RR = rnd step (P.drop 0) 0 c) := hide (by rw [hRR]; rfl)
  rw [← hRR]
  clear hR hal hdo h hpm hRR HRN
  go_enter Tryd.func21, Tryd.ntmps21
  go_wp2_with fail
  go_loopw [11] (fun j wr => ∃ (k : Nat) (c' : CS), k ≤ P.length ∧ j = .int .i64 (k : Int) ∧ Hid (R k c' wr ∧ rnd step P 0 c = rnd step (P.drop k) k c')) (fun j _ => P.length - (intOf j).toNat)
  case atStart => exact ⟨0, c, by omega, rfl, unhide H0, rfl⟩
  case round =>
    obtain ⟨k, c', hk, rfl, HI⟩ := hrel
    clear c4
    rcases Nat.lt_or_ge k P.length with hlt | hge
    · obtain ⟨S, hS⟩ : ∃ S, P[k]? = some S := ⟨P[k], List.getElem?_eq_getElem _⟩
      obtain ⟨-, c0, hpm⟩ := unhide HR k c' wr (unhide HI).1
      have hzl : z < wr.heap.size := block_lt_of_cell c0
      have hat := hpm.at_ (by omega)
      have hrg := (hpm.row k S hS).1
      have HRG := hide hrg
      have hix := idx24 (g := V.gb) (o := V.ob) (cap := V.cap) (n := P.length) (i := k) hlt
      rw [← hat] at hix
      have HST := hide (rnd_drop (unhide HI).2 hS)
      have HD := hide (fun W (q : R k c' W) (e : c'.er = 0) => unhide HDO k c' W S hS e q)
      unfold SV.v at HD
      have HON := hide (sv_one S)
      have hD24 : S.cells.toList.length = 24 := sv_size S
      obtain ⟨L, hL⟩ : ∃ L, L = S.cells.toList := ⟨_, rfl⟩
      have hLa : S.cells = L.toArray := by rw [hL]
      rw [← hL] at HRG hD24
      rw [hLa] at HON HD
      have HA := hide (unhide HAL k c' wr (.cells L.toArray 49) (unhide HI).1)
      have hkk : (k : Int) < (P.length : Int) := by omega
      generalize step c' (k : Int) S = cn at *
      clear hpm hrg hL hLa hS hat
      by_cases he : c'.er = 0
      · have q0 : (c'.er == 0) = true := bt he
        have q1 : (c'.er != 0) = false := by rw [bne, q0]; rfl
        have HE := hide he
        have HN := hide ((unhide HST).1 he)
        clear he HST
        go_wp2_with (first
          | (refine wpList_load_mid rfl 49 _ rfl V.gb (V.ob + k * 24) rfl L _ (unhide HRG) Tryd.underlying49 rfl (size_stmt.trans (by rw [hD24])) ?_)
          | (refine wpList_store_row rfl 49 _ _ rfl wr.heap.size L.toArray rfl rfl 49 _ (at_new rfl) (size_stmt.trans (by rw [show L.toArray.size = 24 from List.size_toArray.trans hD24])) (by rw [show L.toArray.size = 24 from List.size_toArray.trans hD24]; rfl) (unhide HON) ?_; rw [World.setRow_alloc_new])
          | (refine wpList_load_row rfl 49 _ rfl wr.heap.size rfl 49 L.toArray (0, 0) _ (at_new rfl) Tryd.underlying49 rfl (size_stmt.trans (by rw [show L.toArray.size = 24 from List.size_toArray.trans hD24])) ?_)
          | fail)
        refine (unhide HD _ (unhide HA) (unhide HE)).mono ?_
        rintro e w2 ⟨rfl, hR2⟩
        have HR2 := hide hR2
        clear hR2
        go_wp2_with fail
        exact ⟨⟨k + 1, cn, by omega, by go_num, unhide HR2, unhide HN⟩, by simp [intOf]; omega⟩
      · have q0 : (c'.er == 0) = false := bn he
        have q1 : (c'.er != 0) = true := by rw [bne, q0]; rfl
        have HN := hide ((unhide HST).2 he)
        clear he HST
        go_wp2_with (first
          | (refine wpList_load_mid rfl 49 _ rfl V.gb (V.ob + k * 24) rfl L _ (unhide HRG) Tryd.underlying49 rfl (size_stmt.trans (by rw [hD24])) ?_)
          | (refine wpList_store_row rfl 49 _ _ rfl wr.heap.size L.toArray rfl rfl 49 _ (at_new rfl) (size_stmt.trans (by rw [show L.toArray.size = 24 from List.size_toArray.trans hD24])) (by rw [show L.toArray.size = 24 from List.size_toArray.trans hD24]; rfl) (unhide HON) ?_; rw [World.setRow_alloc_new])
          | (refine wpList_load_row rfl 49 _ rfl wr.heap.size rfl 49 L.toArray (0, 0) _ (at_new rfl) Tryd.underlying49 rfl (size_stmt.trans (by rw [show L.toArray.size = 24 from List.size_toArray.trans hD24])) ?_)
          | fail)
        refine bodyPost_ret (results_none rfl _ _ _) rfl ?_
        exact ⟨rfl, k, by rw [unhide HRR, unhide HN]; exact unhide HA⟩
    · obtain rfl : k = P.length := by omega
      have HN : Hid (rnd step P 0 c = c') := hide (by rw [(unhide HI).2, List.drop_length]; rfl)
      go_wp2_with fail
      go_end0
      exact ⟨rfl, P.length, by rw [unhide HRR, unhide HN]; exact (unhide HI).1⟩
end Go.Proofs.YtpphjddljngkmaaDoor
