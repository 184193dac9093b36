/- The checker: its rounds, and all of it. The checker: look, whole. -/
import Derived.Test.YtpkmamgleofimaaGreatDoorCkRM
namespace Go.Proofs.YtpkmamgleofimaaGreatDoor
open Go.RowKit

theorem rnd_drop {step : CS → Int → SV → CS} {P : List SV} {k : Nat} {S : SV} {c c' : CS} (h : rnd step P 0 c = rnd step (P.drop k) k c') (hS : P[k]? = some S) : (c'.er = 0 → rnd step P 0 c = rnd step (P.drop (k + 1)) (k + 1) (step c' (k : Int) S)) ∧ (c'.er ≠ 0 → rnd step P 0 c = c') := by
  have hk : k < P.length := (List.getElem?_eq_some_iff.1 hS).1
  have e : P.drop k = S :: P.drop (k + 1) := by
    rw [List.drop_eq_getElem_cons hk]
    congr 1
    rw [List.getElem?_eq_getElem hk] at hS
    exact Option.some.inj hS
  rw [h, e]
  exact ⟨fun q => if_pos q, fun q => if_neg q⟩
theorem alone_all : ∀ (l : List SV) (i : Nat) (c : CS), (rnd CS.alone l i c).er = 0 → ∀ S ∈ l, S.wrong = 0
  | [], _, _, _, S, hS => by cases hS
  | A :: l, i, c, h, S, hS => by
    by_cases h0 : c.er = 0
    · have e1 : rnd CS.alone (A :: l) i c = rnd CS.alone l (i + 1) (c.alone (i : Int) A) := if_pos h0
      rw [e1] at h
      by_cases h1 : (c.alone (i : Int) A).er = 0
      · rcases List.mem_cons.1 hS with rfl | hS
        · exact (tell_ok (show (c.tell S.wrong (i : Int)).er = 0 from h1)).2.2
        · exact alone_all l (i + 1) _ h S hS
      · rw [rnd_stop _ _ _ h1] at h; exact absurd h h1
    · rw [rnd_stop _ _ _ h0] at h; exact absurd h h0
theorem eight {S : SV} (h : S.wrong = 0) (hk : S.k = 7) : S.ps.l.length ≤ 8 ∧ S.ls.l.length ≤ 8 := by
  unfold SV.wrong at h
  split at h
  · split at h
    · cases h
    · rw [SV.kndE, hk, if_neg (by decide), if_neg (by decide), if_neg (by decide), if_neg (by decide), if_neg (by decide), if_neg (by decide), if_pos rfl] at h
      unfold SV.dfE at h
      split at h
      · cases h
      · rename_i q
        have : ¬ (8 < S.ps.l.length ∨ 8 < S.ls.l.length) := fun r => q ⟨h, r⟩
        omega
  · cases h
set_option maxRecDepth 100000 in
set_option maxHeartbeats 4000000 in
theorem round_A (z : Nat) (V : PV) (P : List SV) (R : Nat → CS → World → Prop) (step : CS → Int → SV → CS)
    (hR : ∀ i c W, R i c W → W.cell? ⟨z, 4, none⟩ = some (V.v P.length) ∧ W.cell? ⟨z, 0, none⟩ = some (.int .i64 c.er) ∧ PIn W V P)
    (hal : ∀ i c W o, R i c W → R i c (World.alloc W o))
    (hdo : ∀ i c W S, P[i]? = some S → c.er = 0 → R i c W → Calls Tryz.prog 23 #[.pointer (some ⟨z, 0, none⟩), .int .i64 (i : Int), S.v] W fun e w' => e = .returned (.tuple #[]) ∧ R (i + 1) (step c (i : Int) S) w')
    (c : CS) (w : World) (h : R 0 c w) :
    Calls Tryz.prog 22 #[.pointer (some ⟨z, 0, none⟩), .func (.func 23) #[.pointer (some ⟨z, 0, none⟩)] #[]] w fun e w' => e = .returned (.tuple #[]) ∧ ∃ k, R k (rnd step P 0 c) w' := by
  have HR := hide hR
  have HAL := hide hal
  have HDO := hide hdo
  have H0 := hide h
  have c4 := (hR 0 c w h).1
  have hpm := (hR 0 c w h).2.2
  have hmx := hpm.max
  unfold maxLen at hmx
  have hcap := hpm.cap
  unfold PV.v at c4
  have HRN : Hid (rnd step P 0 c = rnd step (P.drop 0) 0 c) := hide (rfl)
  obtain ⟨RR, hRR⟩ : ∃ RR, RR = rnd step P 0 c := ⟨_, rfl⟩
  have HRR := hide hRR
  have HRN2 : Hid (RR = rnd step (P.drop 0) 0 c) := hide (by rw [hRR]; rfl)
  rw [← hRR]
  clear hR hal hdo h hpm hRR HRN
  go_enter Tryz.func22, Tryz.ntmps22
  go_wp2_with fail
  go_loopw [11] (fun j wr => ∃ (k : Nat) (c' : CS), k ≤ P.length ∧ j = .int .i64 (k : Int) ∧ Hid (R k c' wr ∧ rnd step P 0 c = rnd step (P.drop k) k c')) (fun j _ => P.length - (intOf j).toNat)
  case atStart => exact ⟨0, c, by omega, rfl, unhide H0, rfl⟩
  case round =>
    obtain ⟨k, c', hk, rfl, HI⟩ := hrel
    clear c4
    rcases Nat.lt_or_ge k P.length with hlt | hge
    · obtain ⟨S, hS⟩ : ∃ S, P[k]? = some S := ⟨P[k], List.getElem?_eq_getElem _⟩
      obtain ⟨-, c0, hpm⟩ := unhide HR k c' wr (unhide HI).1
      have hzl : z < wr.heap.size := block_lt_of_cell c0
      have hat := hpm.at_ (by omega)
      have hrg := (hpm.row k S hS).1
      have HRG := hide hrg
      have hix := idx24 (g := V.gb) (o := V.ob) (cap := V.cap) (n := P.length) (i := k) hlt
      rw [← hat] at hix
      have HST := hide (rnd_drop (unhide HI).2 hS)
      have HD := hide (fun W (q : R k c' W) (e : c'.er = 0) => unhide HDO k c' W S hS e q)
      unfold SV.v at HD
      have HON := hide (sv_one S)
      have hD24 : S.cells.toList.length = 24 := sv_size S
      obtain ⟨L, hL⟩ : ∃ L, L = S.cells.toList := ⟨_, rfl⟩
      have hLa : S.cells = L.toArray := by rw [hL]
      rw [← hL] at HRG hD24
      rw [hLa] at HON HD
      have HA := hide (unhide HAL k c' wr (.cells L.toArray 47) (unhide HI).1)
      have hkk : (k : Int) < (P.length : Int) := by omega
      generalize step c' (k : Int) S = cn at *
      clear hpm hrg hL hLa hS hat
      by_cases he : c'.er = 0
      · have q0 : (c'.er == 0) = true := bt he
        have q1 : (c'.er != 0) = false := by rw [bne, q0]; rfl
        have HE := hide he
        have HN := hide ((unhide HST).1 he)
        clear he HST
        go_wp2_with (first
          | (refine wpList_load_mid rfl 47 _ rfl V.gb (V.ob + k * 24) rfl L _ (unhide HRG) Tryz.underlying47 rfl (size_stmt.trans (by rw [hD24])) ?_)
          | (refine wpList_store_row rfl 47 _ _ rfl wr.heap.size L.toArray rfl rfl 47 _ (at_new rfl) (size_stmt.trans (by rw [show L.toArray.size = 24 from List.size_toArray.trans hD24])) (by rw [show L.toArray.size = 24 from List.size_toArray.trans hD24]; rfl) (unhide HON) ?_; rw [World.setRow_alloc_new])
          | (refine wpList_load_row rfl 47 _ rfl wr.heap.size rfl 47 L.toArray (0, 0) _ (at_new rfl) Tryz.underlying47 rfl (size_stmt.trans (by rw [show L.toArray.size = 24 from List.size_toArray.trans hD24])) ?_)
          | fail)
        refine (unhide HD _ (unhide HA) (unhide HE)).mono ?_
        rintro e w2 ⟨rfl, hR2⟩
        have HR2 := hide hR2
        clear hR2
        go_wp2_with fail
        exact ⟨⟨k + 1, cn, by omega, by go_num, unhide HR2, unhide HN⟩, by simp [intOf]; omega⟩
      · have q0 : (c'.er == 0) = false := bn he
        have q1 : (c'.er != 0) = true := by rw [bne, q0]; rfl
        have HN := hide ((unhide HST).2 he)
        clear he HST
        go_wp2_with (first
          | (refine wpList_load_mid rfl 47 _ rfl V.gb (V.ob + k * 24) rfl L _ (unhide HRG) Tryz.underlying47 rfl (size_stmt.trans (by rw [hD24])) ?_)
          | (refine wpList_store_row rfl 47 _ _ rfl wr.heap.size L.toArray rfl rfl 47 _ (at_new rfl) (size_stmt.trans (by rw [show L.toArray.size = 24 from List.size_toArray.trans hD24])) (by rw [show L.toArray.size = 24 from List.size_toArray.trans hD24]; rfl) (unhide HON) ?_; rw [World.setRow_alloc_new])
          | (refine wpList_load_row rfl 47 _ rfl wr.heap.size rfl 47 L.toArray (0, 0) _ (at_new rfl) Tryz.underlying47 rfl (size_stmt.trans (by rw [show L.toArray.size = 24 from List.size_toArray.trans hD24])) ?_)
          | fail)
        refine bodyPost_ret (results_none rfl _ _ _) rfl ?_
        exact ⟨rfl, k, by rw [unhide HRR, unhide HN]; exact unhide HA⟩
    · obtain rfl : k = P.length := by omega
      have HN : Hid (rnd step P 0 c = c') := hide (by rw [(unhide HI).2, List.drop_length]; rfl)
      go_wp2_with fail
      go_end0
      exact ⟨rfl, P.length, by rw [unhide HRR, unhide HN]; exact (unhide HI).1⟩
set_option maxRecDepth 100000 in
set_option maxHeartbeats 4000000 in
theorem round_L (z : Nat) (V : PV) (P : List SV) (R : Nat → CS → World → Prop) (step : CS → Int → SV → CS)
    (hR : ∀ i c W, R i c W → W.cell? ⟨z, 4, none⟩ = some (V.v P.length) ∧ W.cell? ⟨z, 0, none⟩ = some (.int .i64 c.er) ∧ PIn W V P)
    (hal : ∀ i c W o, R i c W → R i c (World.alloc W o))
    (hdo : ∀ i c W S, P[i]? = some S → c.er = 0 → R i c W → Calls Tryz.prog 24 #[.pointer (some ⟨z, 0, none⟩), .int .i64 (i : Int), S.v] W fun e w' => e = .returned (.tuple #[]) ∧ R (i + 1) (step c (i : Int) S) w')
    (c : CS) (w : World) (h : R 0 c w) :
    Calls Tryz.prog 22 #[.pointer (some ⟨z, 0, none⟩), .func (.func 24) #[.pointer (some ⟨z, 0, none⟩)] #[]] w fun e w' => e = .returned (.tuple #[]) ∧ ∃ k, R k (rnd step P 0 c) w' := by
  have HR := hide hR
  have HAL := hide hal
  have HDO := hide hdo
  have H0 := hide h
  have c4 := (hR 0 c w h).1
  have hpm := (hR 0 c w h).2.2
  have hmx := hpm.max
  unfold maxLen at hmx
  have hcap := hpm.cap
  unfold PV.v at c4
  have HRN : Hid (rnd step P 0 c = rnd step (P.drop 0) 0 c) := hide (rfl)
  obtain ⟨RR, hRR⟩ : ∃ RR, RR = rnd step P 0 c := ⟨_, rfl⟩
  have HRR := hide hRR
  have HRN2 : Hid (RR = rnd step (P.drop 0) 0 c) := hide (by rw [hRR]; rfl)
  rw [← hRR]
  clear hR hal hdo h hpm hRR HRN
  go_enter Tryz.func22, Tryz.ntmps22
  go_wp2_with fail
  go_loopw [11] (fun j wr => ∃ (k : Nat) (c' : CS), k ≤ P.length ∧ j = .int .i64 (k : Int) ∧ Hid (R k c' wr ∧ rnd step P 0 c = rnd step (P.drop k) k c')) (fun j _ => P.length - (intOf j).toNat)
  case atStart => exact ⟨0, c, by omega, rfl, unhide H0, rfl⟩
  case round =>
    obtain ⟨k, c', hk, rfl, HI⟩ := hrel
    clear c4
    rcases Nat.lt_or_ge k P.length with hlt | hge
    · obtain ⟨S, hS⟩ : ∃ S, P[k]? = some S := ⟨P[k], List.getElem?_eq_getElem _⟩
      obtain ⟨-, c0, hpm⟩ := unhide HR k c' wr (unhide HI).1
      have hzl : z < wr.heap.size := block_lt_of_cell c0
      have hat := hpm.at_ (by omega)
      have hrg := (hpm.row k S hS).1
      have HRG := hide hrg
      have hix := idx24 (g := V.gb) (o := V.ob) (cap := V.cap) (n := P.length) (i := k) hlt
      rw [← hat] at hix
      have HST := hide (rnd_drop (unhide HI).2 hS)
      have HD := hide (fun W (q : R k c' W) (e : c'.er = 0) => unhide HDO k c' W S hS e q)
      unfold SV.v at HD
      have HON := hide (sv_one S)
      have hD24 : S.cells.toList.length = 24 := sv_size S
      obtain ⟨L, hL⟩ : ∃ L, L = S.cells.toList := ⟨_, rfl⟩
      have hLa : S.cells = L.toArray := by rw [hL]
      rw [← hL] at HRG hD24
      rw [hLa] at HON HD
      have HA := hide (unhide HAL k c' wr (.cells L.toArray 47) (unhide HI).1)
      have hkk : (k : Int) < (P.length : Int) := by omega
      generalize step c' (k : Int) S = cn at *
      clear hpm hrg hL hLa hS hat
      by_cases he : c'.er = 0
      · have q0 : (c'.er == 0) = true := bt he
        have q1 : (c'.er != 0) = false := by rw [bne, q0]; rfl
        have HE := hide he
        have HN := hide ((unhide HST).1 he)
        clear he HST
        go_wp2_with (first
          | (refine wpList_load_mid rfl 47 _ rfl V.gb (V.ob + k * 24) rfl L _ (unhide HRG) Tryz.underlying47 rfl (size_stmt.trans (by rw [hD24])) ?_)
          | (refine wpList_store_row rfl 47 _ _ rfl wr.heap.size L.toArray rfl rfl 47 _ (at_new rfl) (size_stmt.trans (by rw [show L.toArray.size = 24 from List.size_toArray.trans hD24])) (by rw [show L.toArray.size = 24 from List.size_toArray.trans hD24]; rfl) (unhide HON) ?_; rw [World.setRow_alloc_new])
          | (refine wpList_load_row rfl 47 _ rfl wr.heap.size rfl 47 L.toArray (0, 0) _ (at_new rfl) Tryz.underlying47 rfl (size_stmt.trans (by rw [show L.toArray.size = 24 from List.size_toArray.trans hD24])) ?_)
          | fail)
        refine (unhide HD _ (unhide HA) (unhide HE)).mono ?_
        rintro e w2 ⟨rfl, hR2⟩
        have HR2 := hide hR2
        clear hR2
        go_wp2_with fail
        exact ⟨⟨k + 1, cn, by omega, by go_num, unhide HR2, unhide HN⟩, by simp [intOf]; omega⟩
      · have q0 : (c'.er == 0) = false := bn he
        have q1 : (c'.er != 0) = true := by rw [bne, q0]; rfl
        have HN := hide ((unhide HST).2 he)
        clear he HST
        go_wp2_with (first
          | (refine wpList_load_mid rfl 47 _ rfl V.gb (V.ob + k * 24) rfl L _ (unhide HRG) Tryz.underlying47 rfl (size_stmt.trans (by rw [hD24])) ?_)
          | (refine wpList_store_row rfl 47 _ _ rfl wr.heap.size L.toArray rfl rfl 47 _ (at_new rfl) (size_stmt.trans (by rw [show L.toArray.size = 24 from List.size_toArray.trans hD24])) (by rw [show L.toArray.size = 24 from List.size_toArray.trans hD24]; rfl) (unhide HON) ?_; rw [World.setRow_alloc_new])
          | (refine wpList_load_row rfl 47 _ rfl wr.heap.size rfl 47 L.toArray (0, 0) _ (at_new rfl) Tryz.underlying47 rfl (size_stmt.trans (by rw [show L.toArray.size = 24 from List.size_toArray.trans hD24])) ?_)
          | fail)
        refine bodyPost_ret (results_none rfl _ _ _) rfl ?_
        exact ⟨rfl, k, by rw [unhide HRR, unhide HN]; exact unhide HA⟩
    · obtain rfl : k = P.length := by omega
      have HN : Hid (rnd step P 0 c = c') := hide (by rw [(unhide HI).2, List.drop_length]; rfl)
      go_wp2_with fail
      go_end0
      exact ⟨rfl, P.length, by rw [unhide HRR, unhide HN]; exact (unhide HI).1⟩
set_option maxRecDepth 100000 in
set_option maxHeartbeats 4000000 in
theorem round_F (z : Nat) (V : PV) (P : List SV) (R : Nat → CS → World → Prop) (step : CS → Int → SV → CS)
    (hR : ∀ i c W, R i c W → W.cell? ⟨z, 4, none⟩ = some (V.v P.length) ∧ W.cell? ⟨z, 0, none⟩ = some (.int .i64 c.er) ∧ PIn W V P)
    (hal : ∀ i c W o, R i c W → R i c (World.alloc W o))
    (hdo : ∀ i c W S, P[i]? = some S → c.er = 0 → R i c W → Calls Tryz.prog 25 #[.pointer (some ⟨z, 0, none⟩), .int .i64 (i : Int), S.v] W fun e w' => e = .returned (.tuple #[]) ∧ R (i + 1) (step c (i : Int) S) w')
    (c : CS) (w : World) (h : R 0 c w) :
    Calls Tryz.prog 22 #[.pointer (some ⟨z, 0, none⟩), .func (.func 25) #[.pointer (some ⟨z, 0, none⟩)] #[]] w fun e w' => e = .returned (.tuple #[]) ∧ ∃ k, R k (rnd step P 0 c) w' := by
  have HR := hide hR
  have HAL := hide hal
  have HDO := hide hdo
  have H0 := hide h
  have c4 := (hR 0 c w h).1
  have hpm := (hR 0 c w h).2.2
  have hmx := hpm.max
  unfold maxLen at hmx
  have hcap := hpm.cap
  unfold PV.v at c4
  have HRN : Hid (rnd step P 0 c = rnd step (P.drop 0) 0 c) := hide (rfl)
  obtain ⟨RR, hRR⟩ : ∃ RR, RR = rnd step P 0 c := ⟨_, rfl⟩
  have HRR := hide hRR
  have HRN2 : Hid (RR = rnd step (P.drop 0) 0 c) := hide (by rw [hRR]; rfl)
  rw [← hRR]
  clear hR hal hdo h hpm hRR HRN
  go_enter Tryz.func22, Tryz.ntmps22
  go_wp2_with fail
  go_loopw [11] (fun j wr => ∃ (k : Nat) (c' : CS), k ≤ P.length ∧ j = .int .i64 (k : Int) ∧ Hid (R k c' wr ∧ rnd step P 0 c = rnd step (P.drop k) k c')) (fun j _ => P.length - (intOf j).toNat)
  case atStart => exact ⟨0, c, by omega, rfl, unhide H0, rfl⟩
  case round =>
    obtain ⟨k, c', hk, rfl, HI⟩ := hrel
    clear c4
    rcases Nat.lt_or_ge k P.length with hlt | hge
    · obtain ⟨S, hS⟩ : ∃ S, P[k]? = some S := ⟨P[k], List.getElem?_eq_getElem _⟩
      obtain ⟨-, c0, hpm⟩ := unhide HR k c' wr (unhide HI).1
      have hzl : z < wr.heap.size := block_lt_of_cell c0
      have hat := hpm.at_ (by omega)
      have hrg := (hpm.row k S hS).1
      have HRG := hide hrg
      have hix := idx24 (g := V.gb) (o := V.ob) (cap := V.cap) (n := P.length) (i := k) hlt
      rw [← hat] at hix
      have HST := hide (rnd_drop (unhide HI).2 hS)
      have HD := hide (fun W (q : R k c' W) (e : c'.er = 0) => unhide HDO k c' W S hS e q)
      unfold SV.v at HD
      have HON := hide (sv_one S)
      have hD24 : S.cells.toList.length = 24 := sv_size S
      obtain ⟨L, hL⟩ : ∃ L, L = S.cells.toList := ⟨_, rfl⟩
      have hLa : S.cells = L.toArray := by rw [hL]
      rw [← hL] at HRG hD24
      rw [hLa] at HON HD
      have HA := hide (unhide HAL k c' wr (.cells L.toArray 47) (unhide HI).1)
      have hkk : (k : Int) < (P.length : Int) := by omega
      generalize step c' (k : Int) S = cn at *
      clear hpm hrg hL hLa hS hat
      by_cases he : c'.er = 0
      · have q0 : (c'.er == 0) = true := bt he
        have q1 : (c'.er != 0) = false := by rw [bne, q0]; rfl
        have HE := hide he
        have HN := hide ((unhide HST).1 he)
        clear he HST
        go_wp2_with (first
          | (refine wpList_load_mid rfl 47 _ rfl V.gb (V.ob + k * 24) rfl L _ (unhide HRG) Tryz.underlying47 rfl (size_stmt.trans (by rw [hD24])) ?_)
          | (refine wpList_store_row rfl 47 _ _ rfl wr.heap.size L.toArray rfl rfl 47 _ (at_new rfl) (size_stmt.trans (by rw [show L.toArray.size = 24 from List.size_toArray.trans hD24])) (by rw [show L.toArray.size = 24 from List.size_toArray.trans hD24]; rfl) (unhide HON) ?_; rw [World.setRow_alloc_new])
          | (refine wpList_load_row rfl 47 _ rfl wr.heap.size rfl 47 L.toArray (0, 0) _ (at_new rfl) Tryz.underlying47 rfl (size_stmt.trans (by rw [show L.toArray.size = 24 from List.size_toArray.trans hD24])) ?_)
          | fail)
        refine (unhide HD _ (unhide HA) (unhide HE)).mono ?_
        rintro e w2 ⟨rfl, hR2⟩
        have HR2 := hide hR2
        clear hR2
        go_wp2_with fail
        exact ⟨⟨k + 1, cn, by omega, by go_num, unhide HR2, unhide HN⟩, by simp [intOf]; omega⟩
      · have q0 : (c'.er == 0) = false := bn he
        have q1 : (c'.er != 0) = true := by rw [bne, q0]; rfl
        have HN := hide ((unhide HST).2 he)
        clear he HST
        go_wp2_with (first
          | (refine wpList_load_mid rfl 47 _ rfl V.gb (V.ob + k * 24) rfl L _ (unhide HRG) Tryz.underlying47 rfl (size_stmt.trans (by rw [hD24])) ?_)
          | (refine wpList_store_row rfl 47 _ _ rfl wr.heap.size L.toArray rfl rfl 47 _ (at_new rfl) (size_stmt.trans (by rw [show L.toArray.size = 24 from List.size_toArray.trans hD24])) (by rw [show L.toArray.size = 24 from List.size_toArray.trans hD24]; rfl) (unhide HON) ?_; rw [World.setRow_alloc_new])
          | (refine wpList_load_row rfl 47 _ rfl wr.heap.size rfl 47 L.toArray (0, 0) _ (at_new rfl) Tryz.underlying47 rfl (size_stmt.trans (by rw [show L.toArray.size = 24 from List.size_toArray.trans hD24])) ?_)
          | fail)
        refine bodyPost_ret (results_none rfl _ _ _) rfl ?_
        exact ⟨rfl, k, by rw [unhide HRR, unhide HN]; exact unhide HA⟩
    · obtain rfl : k = P.length := by omega
      have HN : Hid (rnd step P 0 c = c') := hide (by rw [(unhide HI).2, List.drop_length]; rfl)
      go_wp2_with fail
      go_end0
      exact ⟨rfl, P.length, by rw [unhide HRR, unhide HN]; exact (unhide HI).1⟩
end Go.Proofs.YtpkmamgleofimaaGreatDoor

namespace Go.Proofs.YtpkmamgleofimaaGreatDoor
open Go.RowKit

section
variable {w W : World} {B z bl bf : Nat} {V : PV} {P : List SV}
theorem env_cells {n : Nat} {c : CS} (hE : Env B w V P) (hM : CkM B z bl bf n (V.v P.length) c W) (hb : Below B w W) : W.cell? ⟨z, 4, none⟩ = some (V.v P.length) ∧ W.cell? ⟨z, 0, none⟩ = some (.int .i64 c.er) ∧ PIn W V P := ⟨hM.c4, hM.c0, hE.prog W hb⟩
theorem useA (hE : Env B w V P) (hM : CkM B z bl bf 0 (V.v P.length) (CS.start P) W) (hb : Below B w W) :
    Calls Tryz.prog 22 #[.pointer (some ⟨z, 0, none⟩), .func (.func 23) #[.pointer (some ⟨z, 0, none⟩)] #[]] W fun e w' => e = .returned (.tuple #[]) ∧ CkM B z bl bf 0 (V.v P.length) (look1 P) w' ∧ Below B w w' ∧ ((look1 P).er = 0 → P.length ≤ 1000) := by
  refine (round_A z V P (fun _ c W => CkM B z bl bf 0 (V.v P.length) c W ∧ Below B w W ∧ (c.er = 0 → P.length ≤ 1000)) CS.alone (fun _ c W q => env_cells hE q.1 q.2.1) (fun _ c W o q => ⟨q.1.later (ba _), q.2.1.trans (((Below.refl _ _).alloc (Nat.le_refl _) o).mono q.1.le), q.2.2⟩) (fun i c W S hS he q => ?_) (CS.start P) W ⟨hM, hb, fun h => ?_⟩).mono fun e w' q => ⟨q.1, by obtain ⟨k, h⟩ := q.2; exact h⟩
  · exact (alone_any S W B z bl bf 0 i (V.v P.length) c (hE.stmt hS W q.2.1) (hE.shx W q.2.1) (hE.shp W q.2.1) q.1).mono fun e w' r => ⟨r.1, r.2.1, q.2.1.trans r.2.2, fun _ => q.2.2 he⟩
  · have := (tellIf_ok (show ((⟨0, 0, fun _ => none, fun _ => none⟩ : CS).tellIf (decide (1000 < P.length)) 5 0).er = 0 from h) (by decide)).2.2
    simpa using this
theorem useL (hE : Env B w V P) (hM : CkM B z bl bf 0 (V.v P.length) (look1 P) W) (hb : Below B w W) (hl : (look1 P).er = 0 → P.length ≤ 1000) :
    Calls Tryz.prog 22 #[.pointer (some ⟨z, 0, none⟩), .func (.func 24) #[.pointer (some ⟨z, 0, none⟩)] #[]] W fun e w' => e = .returned (.tuple #[]) ∧ (∃ n, CkM B z bl bf n (V.v P.length) (look2 P) w') ∧ Below B w w' := by
  refine (round_L z V P (fun i c W => CkM B z bl bf (2 * i) (V.v P.length) c W ∧ Below B w W ∧ (c.er = 0 → P.length ≤ 1000 ∧ ∀ S ∈ P, S.wrong = 0)) CS.learn (fun _ c W q => env_cells hE q.1 q.2.1) (fun _ c W o q => ⟨q.1.later (ba _), q.2.1.trans (((Below.refl _ _).alloc (Nat.le_refl _) o).mono q.1.le), q.2.2⟩) (fun i c W S hS he q => ?_) (look1 P) W ⟨hM, hb, fun h => ⟨hl h, alone_all P 0 _ h⟩⟩).mono fun e w' q => ⟨q.1, by obtain ⟨k, h⟩ := q.2; exact ⟨⟨_, h.1⟩, h.2.1⟩⟩
  obtain ⟨h1, h2⟩ := q.2.2 he
  have hi : i < P.length := (List.getElem?_eq_some_iff.1 hS).1
  exact (learn_any S W B z bl bf (2 * i) i (V.v P.length) c (fun W' q' => hE.stmt hS W' (q.2.1.trans q')) (eight (h2 S (List.mem_of_getElem? hS))) q.1 (by omega) (by omega)).mono fun e w' r => ⟨r.1, r.2.1, q.2.1.trans r.2.2, fun _ => ⟨h1, h2⟩⟩
theorem useF {n : Nat} (hE : Env B w V P) (hM : CkM B z bl bf n (V.v P.length) (look2 P) W) (hb : Below B w W) :
    Calls Tryz.prog 22 #[.pointer (some ⟨z, 0, none⟩), .func (.func 25) #[.pointer (some ⟨z, 0, none⟩)] #[]] W fun e w' => e = .returned (.tuple #[]) ∧ CkM B z bl bf n (V.v P.length) (lookS P) w' ∧ Below B w w' := by
  refine (round_F z V P (fun _ c W => CkM B z bl bf n (V.v P.length) c W ∧ Below B w W ∧ Good P P.length c) (CS.follow P) (fun _ c W q => env_cells hE q.1 q.2.1) (fun _ c W o q => ⟨q.1.later (ba _), q.2.1.trans (((Below.refl _ _).alloc (Nat.le_refl _) o).mono q.1.le), q.2.2⟩) (fun i c W S hS he q => ?_) (look2 P) W ⟨hM, hb, good_look2 P⟩).mono fun e w' q => ⟨q.1, by obtain ⟨k, h⟩ := q.2; exact ⟨h.1, h.2.1⟩⟩
  exact (follow_any S W B z bl bf n i V P c (fun W' q' => hE.stmt hS W' (q.2.1.trans q')) (hE.next q.2.1) q.1 q.2.2).mono fun e w' r => ⟨r.1, r.2.1, q.2.1.trans r.2.2, q.2.2.of (follow_fl P c _ S).1 (follow_fl P c _ S).2⟩
end
def LookPost (w : World) (V : PV) (P : List SV) (e : Ending) (w' : World) : Prop := ∃ z bl bf n, e = .returned (.pointer (some ⟨z, 0, none⟩)) ∧ CkM w.heap.size z bl bf n (V.v P.length) (lookS P) w' ∧ Below w.heap.size w w'
set_option maxRecDepth 100000 in
set_option maxHeartbeats 4000000 in
theorem look_any (w : World) (V : PV) (P : List SV) (hE : Env w.heap.size w V P) : Calls Tryz.prog 14 #[V.v P.length] w (LookPost w V P) := by
  have hpm := hE.prog w (Below.refl _ _)
  have hmx := hpm.max
  unfold maxLen at hmx
  have hcap := hpm.cap
  have HE := hide hE
  have hmm := @run_makeMap Tryz.prog
  have hmf : ∀ (fn : Fn) (first cap : Array Value) (w : World), (Instr.makeFunc fn first cap).run Tryz.prog w = .ok (.func fn first cap) w := fun _ _ _ _ => rfl
  obtain ⟨w1, hw1⟩ : ∃ w1, w1 = ((w.alloc (.map #[] 0)).alloc (.map #[] 0)).alloc (.cells #[.int .i64 0, .int .i64 0, .map (some w.heap.size), .map (some (w.heap.size + 1)), .slice V.xa P.length V.cap] 56) := ⟨_, rfl⟩
  have hb1 : Below w.heap.size w w1 := by rw [hw1]; exact ((ba _).alloc (by rw [World.size_alloc]; omega) _).alloc (by rw [World.size_alloc, World.size_alloc]; omega) _
  have hM1 : CkM w.heap.size (w.heap.size + 2) w.heap.size (w.heap.size + 1) 0 (V.v P.length) ⟨0, 0, fun _ => none, fun _ => none⟩ w1 := by
    refine ⟨⟨?_⟩, ?_, ?_, by omega, by omega, by omega, by omega, by omega, by omega⟩
    · rw [hw1]; exact at_new (by simp only [World.size_alloc])
    · refine MI.below (w := w.alloc (.map #[] 0)) MI.new ?_
      rw [hw1, Below.heap_alloc _ _ _ (by simp only [World.size_alloc]; omega), Below.heap_alloc _ _ _ (by simp only [World.size_alloc]; omega)]
    · have h := MI.new (w := w.alloc (.map #[] 0))
      rw [World.size_alloc] at h
      refine h.below ?_
      rw [hw1, Below.heap_alloc _ _ _ (by simp only [World.size_alloc]; omega)]
  have HM1 := hide hM1
  have HB1 := hide hb1
  have HRW := hide hw1
  have HSt : Hid (CS.start P = (⟨0, 0, fun _ => none, fun _ => none⟩ : CS).tellIf (decide (1000 < P.length)) 5 0) := hide (rfl)
  clear hE hpm hM1 hb1 hw1
  unfold PV.v
  go_enter Tryz.func14, Tryz.ntmps14
  go_upto_if 12 with fail
  rw [show ((w.alloc (.map #[] 0)).alloc (.map #[] 0)).alloc (.cells #[.int .i64 0, .int .i64 0, .map (some w.heap.size), .map (some (w.heap.size + 1)), .slice V.xa P.length V.cap] 56) = w1 from (unhide HRW).symm]
  go_cut [] from 12 (fun wx => Hid (CkM w.heap.size (w.heap.size + 2) w.heap.size (w.heap.size + 1) 0 (V.v P.length) (CS.start P) wx ∧ Below w.heap.size w wx))
  case first =>
    by_cases hl : 1000 < P.length
    · have HT := hide (tell_M (unhide HM1) 5 0)
      have ql : (1000 : Int) < (P.length : Int) := by omega
      have HS2 : Hid (CS.start P = (⟨0, 0, fun _ => none, fun _ => none⟩ : CS).tell 5 0) := hide (by rw [unhide HSt, CS.tellIf, if_pos (decide_eq_true hl)])
      clear hl
      go_wp2_with fail
      refine (unhide HT).mono ?_
      rintro e w2 ⟨rfl, hb2, hM2⟩
      have HZ : Hid (CkM w.heap.size (w.heap.size + 2) w.heap.size (w.heap.size + 1) 0 (V.v P.length) (CS.start P) w2 ∧ Below w.heap.size w w2) := hide (⟨by rw [unhide HS2]; exact hM2, (unhide HB1).trans (hb2.belowB (by omega) (unhide HB1).size)⟩)
      clear hb2 hM2
      go_wp2_with fail
      go_meet
      case rel => exact unhide HZ
    · have ql : ¬ (1000 : Int) < (P.length : Int) := by omega
      have HZ : Hid (CkM w.heap.size (w.heap.size + 2) w.heap.size (w.heap.size + 1) 0 (V.v P.length) (CS.start P) w1 ∧ Below w.heap.size w w1) := hide (⟨by rw [unhide HSt, CS.tellIf, if_neg (by rw [decide_eq_false hl]; decide)]; exact unhide HM1, unhide HB1⟩)
      clear hl
      go_wp2_with fail
      go_meet
      case rel => exact unhide HZ
  case rest =>
    go_wp2_with fail
    refine (useA (unhide HE) (unhide hcut).1 (unhide hcut).2).mono ?_
    rintro e w3 ⟨rfl, hM3, hb3, hl3⟩
    have HL := hide (useL (unhide HE) hM3 hb3 hl3)
    clear hM3 hb3 hl3
    go_wp2_with fail
    refine (unhide HL).mono ?_
    rintro e w4 ⟨rfl, ⟨n, hM4⟩, hb4⟩
    have HF := hide (useF (unhide HE) hM4 hb4)
    clear hM4 hb4
    go_wp2_with fail
    refine (unhide HF).mono ?_
    rintro e w5 ⟨rfl, hM5, hb5⟩
    have HZ := hide (And.intro hM5 hb5)
    clear hM5 hb5
    go_wp2_with fail
    go_ret
    exact ⟨_, _, _, n, rfl, unhide HZ⟩
end Go.Proofs.YtpkmamgleofimaaGreatDoor
