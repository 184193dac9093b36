/- What the document's Wrong does, for every pattern of at most a million nodes. -/
import Derived.Test.YtnbcklkomdalgaaDoorRefAll4
namespace Go.Proofs.YtnbcklkomdalgaaDoor
open Go.RowKit

theorem firstL_zero (L : List PT) (h : ∀ j (hj : j < L.length), errN L[j] = 0) : firstL L = 0 := by
  induction L with
  | nil => rfl
  | cons x L ih =>
    have h0 : errN x = 0 := h 0 (by simp)
    show (if errN x = 0 then firstL L else errN x) = 0
    rw [if_pos h0]
    exact ih fun j hj => h (j + 1) (by simpa using hj)
theorem firstL_at (L : List PT) (k : Nat) (hk : k < L.length) (h : ∀ j (hj : j < k), errN (L[j]'(by omega)) = 0) (he : errN L[k] ≠ 0) : firstL L = errN L[k] := by
  induction L generalizing k with
  | nil => simp at hk
  | cons x L ih =>
    cases k with
    | zero => have h0 : errN x ≠ 0 := he; show (if errN x = 0 then firstL L else errN x) = errN x; rw [if_neg h0]
    | succ k =>
      have h0 : errN x = 0 := h 0 (by omega)
      show (if errN x = 0 then firstL L else errN x) = _
      rw [if_pos h0]
      exact ih k (by simpa using hk) (fun j hj => h (j + 1) (by omega)) he
theorem cnt_mem {T x : PT} : x ∈ T.all → x.cnt ≤ T.cnt := PT.ind (P := fun T => x ∈ T.all → x.cnt ≤ T.cnt) (fun T ih hx => by
  rw [T.all_eq] at hx
  rcases List.mem_cons.1 hx with rfl | hx
  · exact Nat.le_refl _
  · obtain ⟨i, hi, hx⟩ := flatTo_mem.1 hx
    have h1 := ih i hi hx
    have h2 := sumTo_le (fun i => (T.kid i).cnt) (show i + 1 ≤ T.len from hi)
    simp only [sumTo] at h2
    rw [T.cnt_eq]
    omega) T

/-- Where an entry lies. -/
theorem entry_at (g n cap k : Nat) (hk : k < n) (w : World) :
    (Instr.indexAt 22 (.slice (some ⟨g, 0, none⟩) n cap) (.int .i64 (k : Int))).run Tryd.prog w = .ok (.pointer (some ⟨g, k * 5, none⟩)) w := by
  have h0 : (0 : Int) ≤ (k : Int) ∧ (k : Int) < (n : Int) := by omega
  have hs := size_pat
  cases hq : Tryd.prog.info? 24 with
  | none => simp [hq] at hs
  | some i =>
    have hz : i.size = 5 := by simpa [hq] using hs
    simp [Instr.indexAt, asIntOf, run_underlying Tryd.underlying22, h0, sizeOf, typeInfo, hq, hz, Addr.add_lit]
    intro h
    omega

set_option maxRecDepth 100000 in
set_option maxHeartbeats 1000000 in
theorem refWrong_any (T : PT) (w : World) (hT : T.In w) (hN : T.cnt ≤ 1048576) :
    Calls Tryd.prog 15 #[pv T] w fun e w' => e = .returned (.int .i64 T.wrong) ∧ Below w.heap.size w w' := by
  have HZ := hide (fun W (h : Below w.heap.size w W) => refSize_any T W (PT.In.later h hT) hN)
  have HA := hide (fun W (h : Below w.heap.size w W) => all_any T W (PT.In.later h hT) hN)
  have HT := hide hT
  clear hT
  unfold pv at HZ
  unfold pv
  have hk0 := (Below.refl w.heap.size w).alloc (Nat.le_refl _) (.cells #[.int .i64 T.k, .string T.t, .int .i64 T.n, .string T.nm, .slice T.xa T.len T.cap] 24)
  go_enter Tryd.func15, Tryd.ntmps15
  go_wp2_with fail
  refine (unhide HZ _ hk0).mono ?_
  rintro e w1 ⟨rfl, hb1⟩
  have H1 := hide (bnext hk0 hb1)
  obtain ⟨c0, c1, c2, c3, c4⟩ := cells5 (row_below (at_new rfl) hb1)
  clear hk0 hb1 HZ
  unfold sizeRef
  cases hf : T.fits
  · have HW := hide (show T.wrong = 4 by unfold PT.wrong; rw [hf]; rfl)
    clear hf
    go_wp2_with fail
    go_ret
    exact ⟨by rw [unhide HW]; rfl, unhide H1⟩
  · have HW := hide (show T.wrong = firstL T.all by unfold PT.wrong; rw [hf, PT.bad_all]; rfl)
    have h4 : T.cnt ≤ 4096 := by unfold PT.fits at hf; simp at hf; exact hf.1
    clear hf
    go_wp2_with fail
    refine (unhide HA _ (unhide H1)).mono ?_
    rintro e w2 ⟨v, rfl, ho, hb2⟩
    obtain ⟨g, cap, rfl, hg1, hg2⟩ := ho.form T.cnt_pos
    have HO := hide ho
    have H2 := hide (bnext (unhide H1) hb2)
    have hlen := T.all_length
    have HL := hide hlen
    have HM := hide (fun k (hk : k < T.all.length) => (List.getElem_mem hk))
    have HEV := hide (fun x hx => And.intro (PT.In.every (unhide HT) x hx) (cnt_mem hx))
    clear ho hb2 hg1 hg2 hlen c0 c1 c2 c3 c4
    go_wp2_with fail
    go_loopw [20] (fun i wr => ∃ k : Nat, k ≤ T.cnt ∧ i = .int .i64 (k : Int) ∧ wr.ownsRow w1.heap.size 24 5 (.slice (some ⟨g, 0, none⟩) T.cnt cap) T.cnt (acells T.all) ∧ Below w.heap.size w wr ∧ ∀ j (hj : j < T.all.length), j < k → errN (T.all[j]) = 0) (fun i _ => T.cnt - (intOf i).toNat)
    case atStart => exact ⟨0, by omega, rfl, unhide HO, unhide H2, fun j hj h => by omega⟩
    case round =>
      obtain ⟨k, hk, rfl, ho, hb, hz⟩ := hrel
      rcases Nat.lt_or_ge k T.cnt with hkt | hkt
      · have hkl : k < T.all.length := by rw [unhide HL]; exact hkt
        obtain ⟨k0, k1, k2, k3, k4⟩ := own_at (L := T.all) (by rw [unhide HL]; exact ho) k hkl
        have hia := entry_at g T.cnt cap k hkt
        have hX := unhide HEV _ (List.getElem_mem hkl)
        have HZ := hide (fun (he : errN T.all[k] ≠ 0) => firstL_at T.all k hkl (fun j hj => hz j (by omega) hj) he)
        have HN := hide (fun (he : errN T.all[k] = 0) j (hj : j < T.all.length) (h : j < k + 1) => show errN T.all[j] = 0 by
          rcases Nat.lt_or_ge j k with h1 | h1
          · exact hz j hj h1
          · have : j = k := by omega
            subst this; exact he)
        have HX := hide (And.intro (PT.In.later hb hX.1) (show (T.all[k]).len ≤ 4096 by have := (T.all[k]).len_lt; have := hX.2; omega))
        have HO2 := hide ho
        have HB2 := hide hb
        clear hX hz ho hb
        generalize T.all[k] = X at *
        have hn := (Below.refl wr.heap.size wr).alloc (Nat.le_refl _) (.cells #[.int .i64 X.k, .string X.t, .int .i64 X.n, .string X.nm, .slice X.xa X.len X.cap] 24)
        have HC := hide (rnode_any X _ (PT.In.later hn (unhide HX).1) (unhide HX).2)
        unfold pv at HC
        have HH := hide hn
        clear hn
        go_wp2_with fail
        refine (unhide HC).mono ?_
        rintro e w3 ⟨rfl, hb3⟩
        have HB3 := hide (bnext (bnext (unhide HB2) (unhide HH)) hb3)
        have HO3 := hide (own_below (own_below (unhide HO2) (unhide HH)) hb3)
        clear hb3 HC
        by_cases he : errN X = 0
        · have HN2 := hide (unhide HN he)
          rw [he]
          clear he
          go_wp2_with fail
          exact ⟨⟨k + 1, by omega, by go_num, unhide HO3, unhide HB3, unhide HN2⟩, by simp [intOf]; omega⟩
        · have HZ2 := hide (unhide HZ he)
          have hne : (errN X != 0) = true := by rw [bne_iff_ne]; exact he
          clear he
          go_wp2_with fail
          go_ret
          exact ⟨by rw [unhide HW, unhide HZ2]; rfl, unhide HB3⟩
      · have hk' : k = T.cnt := by omega
        have HZ := hide (firstL_zero T.all (fun j hj => hz j hj (by rw [unhide HL] at hj; omega)))
        have HB2 := hide hb
        clear hz ho hb
        go_wp2_with fail
        go_ret
        exact ⟨by rw [unhide HW, unhide HZ]; rfl, unhide HB2⟩
end Go.Proofs.YtnbcklkomdalgaaDoor
