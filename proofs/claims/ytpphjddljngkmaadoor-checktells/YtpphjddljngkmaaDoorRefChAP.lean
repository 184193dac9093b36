/- The document's Label and Func: at which statement. -/
import Derived.Test.YtpphjddljngkmaaDoorRegionSinkM
import Derived.Deep.MidRow
namespace Go.Proofs.YtpphjddljngkmaaDoor
open Go.RowKit

/-- The first statement of which something holds; -1 where there is none. -/
def rFst (f : SV → Bool) : List SV → Nat → Int
  | [], _ => -1
  | S :: l, i => if f S = true then (i : Int) else rFst f l (i + 1)
theorem rFst_drop {f : SV → Bool} {P : List SV} {k : Nat} {S : SV} {R : Int} (h : R = rFst f (P.drop k) k) (hS : P[k]? = some S) : (f S = true → R = (k : Int)) ∧ (f S = false → R = rFst f (P.drop (k + 1)) (k + 1)) := by
  have hk : k < P.length := (List.getElem?_eq_some_iff.1 hS).1
  have e : P.drop k = S :: P.drop (k + 1) := by
    rw [List.drop_eq_getElem_cons hk]
    congr 1
    rw [List.getElem?_eq_getElem hk] at hS
    exact Option.some.inj hS
  rw [e] at h
  exact ⟨fun q => h.trans (if_pos q), fun q => h.trans (if_neg (by rw [q]; decide))⟩
def labF (n : ByteArray) (S : SV) : Bool := (S.lab.toList == n.toList) && !n.toList.isEmpty
def defF (n : ByteArray) (S : SV) : Bool := (S.k == 7) && (S.nm.toList == n.toList)
set_option maxRecDepth 100000 in
set_option maxHeartbeats 4000000 in
theorem refLabel_any (V : PV) (P : List SV) (n : ByteArray) (w : World) (hp : PIn w V P) :
    Calls Tryd.prog 18 #[V.v P.length, .string n] w fun e w' => e = .returned (.int .i64 (rFst (labF n) P 0)) ∧ Below w.heap.size w w' := by
  have HP := hide hp
  have hmx := hp.max
  unfold maxLen at hmx
  have hcap := hp.cap
  have hat0 := hp.at_
  have HR : Hid (rFst (labF n) P 0 = rFst (labF n) (P.drop 0) 0) := hide rfl
  obtain ⟨R, hRR⟩ : ∃ R, R = rFst (labF n) P 0 := ⟨_, rfl⟩
  have HRR : Hid (R = rFst (labF n) (P.drop 0) 0) := hide (hRR.trans (unhide HR))
  rw [← hRR]
  clear hp hRR HR
  unfold PV.v
  go_enter Tryd.func18, Tryd.ntmps18
  go_wp2_with fail
  go_loopw [9] (fun j wr => ∃ k : Nat, k ≤ P.length ∧ j = .int .i64 (k : Int) ∧ Hid (R = rFst (labF n) (P.drop k) k) ∧ Hid (Below w.heap.size w wr)) (fun j _ => P.length - (intOf j).toNat)
  case atStart => exact ⟨0, by omega, rfl, HRR, Below.refl _ _⟩
  case round =>
    obtain ⟨k, hk, rfl, HF, HB⟩ := hrel
    rcases Nat.lt_or_ge k P.length with hlt | hge
    · obtain ⟨S, hS⟩ : ∃ S, P[k]? = some S := ⟨P[k], List.getElem?_eq_getElem _⟩
      have hpm := (unhide HP).later (unhide HB)
      have hat := hpm.at_ (by omega)
      have HRG := hide (hpm.row k S hS).1
      have hix := idx24 (g := V.gb) (o := V.ob) (cap := V.cap) (n := P.length) (i := k) hlt
      rw [← hat] at hix
      have HON := hide (SV.cells_one S)
      have hD24 : S.cells.toList.length = 24 := sv_size S
      have c0 : (wr.alloc (.cells S.cells.toList.toArray 49)).cell? ⟨wr.heap.size, 0, none⟩ = some (.string S.lab) := by
        rw [cell_of_row _ _ _ _ _ _ (at_new rfl)]; rfl
      have HFD := hide (rFst_drop (unhide HF) hS)
      have HBN := hide ((unhide HB).alloc (unhide HB).size (.cells S.cells.toList.toArray 49))
      obtain ⟨L, hL⟩ : ∃ L, L = S.cells.toList := ⟨_, rfl⟩
      have hLa : S.cells = L.toArray := by rw [hL]
      rw [← hL] at HRG hD24 c0 HBN
      rw [hLa] at HON
      have hkk : (k : Int) < (P.length : Int) := by omega
      clear hpm hL hLa hS hat HF
      cases h0 : S.lab.toList == n.toList
      · cases h1 : n.toList.isEmpty
        · have HN := hide ((unhide HFD).2 (by unfold labF; rw [h0, h1]; rfl))
          clear HFD
          go_wp2_with (first
              | (refine wpList_load_mid rfl 49 _ rfl V.gb (V.ob + k * 24) rfl L _ (unhide HRG) Tryd.underlying49 rfl (size_stmt.trans (by rw [hD24])) ?_)
              | (refine wpList_store_row rfl 49 _ _ rfl wr.heap.size L.toArray rfl rfl 49 _ (at_new rfl) (size_stmt.trans (by rw [show L.toArray.size = 24 from List.size_toArray.trans hD24])) (by rw [show L.toArray.size = 24 from List.size_toArray.trans hD24]; rfl) (unhide HON) ?_; rw [World.setRow_alloc_new])
              | fail)
          exact ⟨⟨k + 1, by omega, by go_num, HN, HBN⟩, by simp [intOf]; omega⟩
        · have HN := hide ((unhide HFD).2 (by unfold labF; rw [h0, h1]; rfl))
          clear HFD
          go_wp2_with (first
              | (refine wpList_load_mid rfl 49 _ rfl V.gb (V.ob + k * 24) rfl L _ (unhide HRG) Tryd.underlying49 rfl (size_stmt.trans (by rw [hD24])) ?_)
              | (refine wpList_store_row rfl 49 _ _ rfl wr.heap.size L.toArray rfl rfl 49 _ (at_new rfl) (size_stmt.trans (by rw [show L.toArray.size = 24 from List.size_toArray.trans hD24])) (by rw [show L.toArray.size = 24 from List.size_toArray.trans hD24]; rfl) (unhide HON) ?_; rw [World.setRow_alloc_new])
              | fail)
          exact ⟨⟨k + 1, by omega, by go_num, HN, HBN⟩, by simp [intOf]; omega⟩
      · cases h1 : n.toList.isEmpty
        · have HN := hide ((unhide HFD).1 (by unfold labF; rw [h0, h1]; rfl))
          clear HFD
          go_wp2_with (first
              | (refine wpList_load_mid rfl 49 _ rfl V.gb (V.ob + k * 24) rfl L _ (unhide HRG) Tryd.underlying49 rfl (size_stmt.trans (by rw [hD24])) ?_)
              | (refine wpList_store_row rfl 49 _ _ rfl wr.heap.size L.toArray rfl rfl 49 _ (at_new rfl) (size_stmt.trans (by rw [show L.toArray.size = 24 from List.size_toArray.trans hD24])) (by rw [show L.toArray.size = 24 from List.size_toArray.trans hD24]; rfl) (unhide HON) ?_; rw [World.setRow_alloc_new])
              | fail)
          go_ret
          exact ⟨by rw [unhide HN]; rfl, unhide HBN⟩
        · have HN := hide ((unhide HFD).2 (by unfold labF; rw [h0, h1]; rfl))
          clear HFD
          go_wp2_with (first
              | (refine wpList_load_mid rfl 49 _ rfl V.gb (V.ob + k * 24) rfl L _ (unhide HRG) Tryd.underlying49 rfl (size_stmt.trans (by rw [hD24])) ?_)
              | (refine wpList_store_row rfl 49 _ _ rfl wr.heap.size L.toArray rfl rfl 49 _ (at_new rfl) (size_stmt.trans (by rw [show L.toArray.size = 24 from List.size_toArray.trans hD24])) (by rw [show L.toArray.size = 24 from List.size_toArray.trans hD24]; rfl) (unhide HON) ?_; rw [World.setRow_alloc_new])
              | fail)
          exact ⟨⟨k + 1, by omega, by go_num, HN, HBN⟩, by simp [intOf]; omega⟩
    · obtain rfl : k = P.length := by omega
      have HN : Hid (R = -1) := hide (by have h := unhide HF; rw [List.drop_length] at h; exact h)
      clear HF
      go_wp2_with fail
      go_ret
      exact ⟨by rw [unhide HN]; rfl, unhide HB⟩
set_option maxRecDepth 100000 in
set_option maxHeartbeats 4000000 in
theorem refFunc_any (V : PV) (P : List SV) (n : ByteArray) (w : World) (hp : PIn w V P) :
    Calls Tryd.prog 19 #[V.v P.length, .string n] w fun e w' => e = .returned (.int .i64 (rFst (defF n) P 0)) ∧ Below w.heap.size w w' := by
  have HP := hide hp
  have hmx := hp.max
  unfold maxLen at hmx
  have hcap := hp.cap
  have hat0 := hp.at_
  have HR : Hid (rFst (defF n) P 0 = rFst (defF n) (P.drop 0) 0) := hide rfl
  obtain ⟨R, hRR⟩ : ∃ R, R = rFst (defF n) P 0 := ⟨_, rfl⟩
  have HRR : Hid (R = rFst (defF n) (P.drop 0) 0) := hide (hRR.trans (unhide HR))
  rw [← hRR]
  clear hp hRR HR
  unfold PV.v
  go_enter Tryd.func19, Tryd.ntmps19
  go_wp2_with fail
  go_loopw [9] (fun j wr => ∃ k : Nat, k ≤ P.length ∧ j = .int .i64 (k : Int) ∧ Hid (R = rFst (defF n) (P.drop k) k) ∧ Hid (Below w.heap.size w wr)) (fun j _ => P.length - (intOf j).toNat)
  case atStart => exact ⟨0, by omega, rfl, HRR, Below.refl _ _⟩
  case round =>
    obtain ⟨k, hk, rfl, HF, HB⟩ := hrel
    rcases Nat.lt_or_ge k P.length with hlt | hge
    · obtain ⟨S, hS⟩ : ∃ S, P[k]? = some S := ⟨P[k], List.getElem?_eq_getElem _⟩
      have hpm := (unhide HP).later (unhide HB)
      have hat := hpm.at_ (by omega)
      have HRG := hide (hpm.row k S hS).1
      have hix := idx24 (g := V.gb) (o := V.ob) (cap := V.cap) (n := P.length) (i := k) hlt
      rw [← hat] at hix
      have HON := hide (SV.cells_one S)
      have hD24 : S.cells.toList.length = 24 := sv_size S
      have c1 : (wr.alloc (.cells S.cells.toList.toArray 49)).cell? ⟨wr.heap.size, 1, none⟩ = some (.int .i64 S.k) := by
        rw [cell_of_row _ _ _ _ _ _ (at_new rfl)]; rfl
      have c17 : (wr.alloc (.cells S.cells.toList.toArray 49)).cell? ⟨wr.heap.size, 17, none⟩ = some (.string S.nm) := by
        rw [cell_of_row _ _ _ _ _ _ (at_new rfl)]; rfl
      have HFD := hide (rFst_drop (unhide HF) hS)
      have HBN := hide ((unhide HB).alloc (unhide HB).size (.cells S.cells.toList.toArray 49))
      obtain ⟨L, hL⟩ : ∃ L, L = S.cells.toList := ⟨_, rfl⟩
      have hLa : S.cells = L.toArray := by rw [hL]
      rw [← hL] at HRG hD24 c1 c17 HBN
      rw [hLa] at HON
      have hkk : (k : Int) < (P.length : Int) := by omega
      clear hpm hL hLa hS hat HF
      cases h0 : S.k == 7
      · cases h1 : S.nm.toList == n.toList
        · have HN := hide ((unhide HFD).2 (by unfold defF; rw [h0, h1]; rfl))
          clear HFD
          go_wp2_with (first
              | (refine wpList_load_mid rfl 49 _ rfl V.gb (V.ob + k * 24) rfl L _ (unhide HRG) Tryd.underlying49 rfl (size_stmt.trans (by rw [hD24])) ?_)
              | (refine wpList_store_row rfl 49 _ _ rfl wr.heap.size L.toArray rfl rfl 49 _ (at_new rfl) (size_stmt.trans (by rw [show L.toArray.size = 24 from List.size_toArray.trans hD24])) (by rw [show L.toArray.size = 24 from List.size_toArray.trans hD24]; rfl) (unhide HON) ?_; rw [World.setRow_alloc_new])
              | fail)
          exact ⟨⟨k + 1, by omega, by go_num, HN, HBN⟩, by simp [intOf]; omega⟩
        · have HN := hide ((unhide HFD).2 (by unfold defF; rw [h0, h1]; rfl))
          clear HFD
          go_wp2_with (first
              | (refine wpList_load_mid rfl 49 _ rfl V.gb (V.ob + k * 24) rfl L _ (unhide HRG) Tryd.underlying49 rfl (size_stmt.trans (by rw [hD24])) ?_)
              | (refine wpList_store_row rfl 49 _ _ rfl wr.heap.size L.toArray rfl rfl 49 _ (at_new rfl) (size_stmt.trans (by rw [show L.toArray.size = 24 from List.size_toArray.trans hD24])) (by rw [show L.toArray.size = 24 from List.size_toArray.trans hD24]; rfl) (unhide HON) ?_; rw [World.setRow_alloc_new])
              | fail)
          exact ⟨⟨k + 1, by omega, by go_num, HN, HBN⟩, by simp [intOf]; omega⟩
      · cases h1 : S.nm.toList == n.toList
        · have HN := hide ((unhide HFD).2 (by unfold defF; rw [h0, h1]; rfl))
          clear HFD
          go_wp2_with (first
              | (refine wpList_load_mid rfl 49 _ rfl V.gb (V.ob + k * 24) rfl L _ (unhide HRG) Tryd.underlying49 rfl (size_stmt.trans (by rw [hD24])) ?_)
              | (refine wpList_store_row rfl 49 _ _ rfl wr.heap.size L.toArray rfl rfl 49 _ (at_new rfl) (size_stmt.trans (by rw [show L.toArray.size = 24 from List.size_toArray.trans hD24])) (by rw [show L.toArray.size = 24 from List.size_toArray.trans hD24]; rfl) (unhide HON) ?_; rw [World.setRow_alloc_new])
              | fail)
          exact ⟨⟨k + 1, by omega, by go_num, HN, HBN⟩, by simp [intOf]; omega⟩
        · have HN := hide ((unhide HFD).1 (by unfold defF; rw [h0, h1]; rfl))
          clear HFD
          go_wp2_with (first
              | (refine wpList_load_mid rfl 49 _ rfl V.gb (V.ob + k * 24) rfl L _ (unhide HRG) Tryd.underlying49 rfl (size_stmt.trans (by rw [hD24])) ?_)
              | (refine wpList_store_row rfl 49 _ _ rfl wr.heap.size L.toArray rfl rfl 49 _ (at_new rfl) (size_stmt.trans (by rw [show L.toArray.size = 24 from List.size_toArray.trans hD24])) (by rw [show L.toArray.size = 24 from List.size_toArray.trans hD24]; rfl) (unhide HON) ?_; rw [World.setRow_alloc_new])
              | fail)
          go_ret
          exact ⟨by rw [unhide HN]; rfl, unhide HBN⟩
    · obtain rfl : k = P.length := by omega
      have HN : Hid (R = -1) := hide (by have h := unhide HF; rw [List.drop_length] at h; exact h)
      clear HF
      go_wp2_with fail
      go_ret
      exact ⟨by rw [unhide HN]; rfl, unhide HB⟩
set_option maxRecDepth 100000 in
set_option maxHeartbeats 4000000 in
theorem refAfter_any (V : PV) (P : List SV) (i : Nat) (n : ByteArray) (w : World) (hp : PIn w V P) (hi : i < 2000) :
    Calls Tryd.prog 15 #[V.v P.length, .int .i64 (i : Int), .string n] w fun e w' => e = .returned (.int .i64 (if n.toList.isEmpty = true then (i : Int) + 1 else if (n.toList == [69, 78, 68]) = true then (P.length : Int) else rFst (labF n) P 0)) ∧ Below w.heap.size w w' := by
  have HL := hide (refLabel_any V P n w hp)
  unfold PV.v at HL ⊢
  clear hp
  go_enter Tryd.func15, Tryd.ntmps15
  cases h0 : n.toList.isEmpty
  · cases h1 : n.toList == [69, 78, 68]
    · go_wp2_with fail
      refine (unhide HL).mono ?_
      rintro e w1 ⟨rfl, hb⟩
      have HB := hide hb
      clear hb
      go_wp2_with fail
      go_ret
      exact ⟨rfl, unhide HB⟩
    · go_wp2_with fail
      go_ret
      exact ⟨rfl, Below.refl _ _⟩
  · go_wp2_with fail
    go_ret
    exact ⟨by go_num, Below.refl _ _⟩
end Go.Proofs.YtpphjddljngkmaaDoor
