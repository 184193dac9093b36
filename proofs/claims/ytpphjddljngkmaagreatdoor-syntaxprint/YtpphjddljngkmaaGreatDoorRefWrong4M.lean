/- What the document's All and Wrong do, for every pattern of at most a million nodes. What the document's Wrong does, for every pattern of at most a million nodes. -/
import Derived.Test.YtpphjddljngkmaaGreatDoorRefNode4P
import Derived.Test.YtpphjddljngkmaaGreatDoorRefSize4P
import Derived.Deep.AppendLies
import Derived.Laws.OwnMore
namespace Go.Proofs.YtpphjddljngkmaaGreatDoor
open Go.RowKit

/-- A pattern's cells in a list. -/
def ac (T : PT) : List Value := [.int .i64 T.k, .string T.t, .int .i64 T.n, .string T.nm, .slice T.xa T.len T.cap]
def acells (L : List PT) : List Value := L.flatMap ac
theorem acells_len (L : List PT) : (acells L).length = L.length * 5 := by
  induction L with
  | nil => rfl
  | cons x L ih =>
    show (ac x ++ acells L).length = _
    rw [List.length_append, ih, List.length_cons]
    show 5 + _ = _
    omega
theorem acells_append (a b : List PT) : acells (a ++ b) = acells a ++ acells b := by unfold acells; rw [List.flatMap_append]
theorem acells_one (L : List PT) : ∀ u ∈ acells L, u.oneCell' = true := by
  intro u hu
  obtain ⟨T, _, hT⟩ := List.mem_flatMap.1 hu
  simp only [ac, List.mem_cons, List.not_mem_nil, or_false] at hT
  rcases hT with rfl | rfl | rfl | rfl | rfl <;> rfl
theorem acells_at (L : List PT) (i : Nat) (hi : i < L.length) : (acells L)[i * 5]? = some (.int .i64 L[i].k) ∧ (acells L)[i * 5 + 1]? = some (.string L[i].t) ∧ (acells L)[i * 5 + 2]? = some (.int .i64 L[i].n) ∧ (acells L)[i * 5 + 3]? = some (.string L[i].nm) ∧ (acells L)[i * 5 + 4]? = some (.slice L[i].xa L[i].len L[i].cap) := by
  induction L generalizing i with
  | nil => simp at hi
  | cons x L ih =>
    cases i with
    | zero => exact ⟨rfl, rfl, rfl, rfl, rfl⟩
    | succ i =>
      have h := ih i (by simpa using hi)
      have hc : ∀ j, (acells (x :: L))[(i + 1) * 5 + j]? = (acells L)[i * 5 + j]? := fun j => by
        show (ac x ++ acells L)[(i + 1) * 5 + j]? = _
        rw [List.getElem?_append_right (by show 5 ≤ _; omega)]
        show (acells L)[(i + 1) * 5 + j - 5]? = _
        rw [show (i + 1) * 5 + j - 5 = i * 5 + j by omega]
      exact ⟨(hc 0).trans h.1, (hc 1).trans h.2.1, (hc 2).trans h.2.2.1, (hc 3).trans h.2.2.2.1, (hc 4).trans h.2.2.2.2⟩
theorem info_pat3 : (Tryz.prog.info? 30).map (fun i => (i.zero, i.size, i.bytes)) = some (some (.agg #[.int .i64 0, .string ⟨#[]⟩, .int .i64 0, .string ⟨#[]⟩, .slice none 0 0]), 5, 72) := by kernel_rfl
def AllSays (T : PT) : Prop := ∀ (w : World), T.In w → T.cnt ≤ 1048576 →
  Calls Tryz.prog 39 #[.agg #[.int .i64 T.k, .string T.t, .int .i64 T.n, .string T.nm, .slice T.xa T.len T.cap]] w fun e w' => ∃ v, e = .returned v ∧ w'.ownsRow w.heap.size 30 5 v T.cnt (acells T.all) ∧ Below w.heap.size w w'
set_option maxRecDepth 100000 in
set_option maxHeartbeats 1000000 in
theorem all_step (T : PT) (ih : ∀ i, i < T.len → AllSays (T.kid i)) : AllSays T := by
  intro w hT hN
  have hmax := hT.max
  unfold maxLen at hmax
  have hinf := info_pat3
  cases hi : Tryz.prog.info? 30 with
  | none => simp [hi] at hinf
  | some i0 =>
    simp only [hi, Option.map_some, Option.some.injEq, Prod.mk.injEq] at hinf
    obtain ⟨hz0, hz1, hz2⟩ := hinf
    have HI := hide (And.intro hi (And.intro hz0 (And.intro hz1 hz2)))
    clear hi hz0 hz1 hz2
    have HD := hide (And.intro hT (And.intro ih (And.intro T.cnt_eq T.all_eq)))
    clear hT ih
    go_enter Tryz.func39, Tryz.ntmps39
    go_wp2_with fail
    go_loopw [3, 11] (fun v i wr => ∃ k : Nat, k ≤ T.len ∧ i = .int .i64 (k : Int) ∧ wr.ownsRow w.heap.size 30 5 v (1 + sumTo (fun i => (T.kid i).cnt) k) (acells (T :: flatTo (fun i => (T.kid i).all) k)) ∧ Below w.heap.size w wr) (fun _ i _ => T.len - (intOf i).toNat)
    case atStart =>
      refine ⟨0, by omega, rfl, ?_, ((Below.refl w.heap.size w).alloc (Nat.le_refl _) _).alloc (by simp) _⟩
      have h := World.ownsRow_lit (base := w.heap.size) (e := 30) (size := 5) (w.alloc (.cells #[.int .i64 T.k, .string T.t, .int .i64 T.n, .string T.nm, .slice T.xa T.len T.cap] 30)) #[.int .i64 T.k, .string T.t, .int .i64 T.n, .string T.nm, .slice T.xa T.len T.cap] 1 (by simp) (by decide) rfl
      rw [World.size_alloc] at h
      exact h
    case round =>
      obtain ⟨k, hk, rfl, ho, hb⟩ := hrel
      rcases Nat.lt_or_ge k T.len with hkt | hkt
      · obtain ⟨hT, ih, hcnt, -⟩ := unhide HD
        obtain ⟨k0, k1, k2, k3, k4⟩ := hT.cells hkt
        have k0 := cell_later hb k0
        have k1 := cell_later hb k1
        have k2 := cell_later hb k2
        have k3 := cell_later hb k3
        have k4 := cell_later hb k4
        unfold PT.kv at k4
        have hia := kid_at hT hkt
        have hsum := sumTo_le (fun i => (T.kid i).cnt) (show k + 1 ≤ T.len from hkt)
        simp only [sumTo] at hsum
        have HS := hide (show 1 + sumTo (fun i => (T.kid i).cnt) k + (T.kid k).cnt ≤ 1048576 by omega)
        have HC := hide (ih k hkt)
        have HT := hide (PT.In.later hb (hT.kids hkt))
        have HO := hide ho
        have HB := hide hb
        clear hT ih hcnt hsum ho hb
        go_wp2_with fail
        have hn := (Below.refl wr.heap.size wr).alloc (Nat.le_refl _) (.cells #[.int .i64 (T.kid k).k, .string (T.kid k).t, .int .i64 (T.kid k).n, .string (T.kid k).nm, .slice (T.kid k).xa (T.kid k).len (T.kid k).cap] 30)
        refine (unhide HC _ (PT.In.later hn (unhide HT)) (by have := unhide HS; omega)).mono ?_
        rintro e w2 ⟨v2, rfl, ho2, hb2⟩
        have HO1 := hide (own_below (own_below (unhide HO) hn) hb2)
        have HB2 := hide (bnext (bnext (unhide HB) hn) hb2)
        have HOL := hide (unhide HO).lt
        obtain ⟨g2, cap2, rfl, hg2, hgl⟩ := ho2.form (T.kid k).cnt_pos
        have HO2 := hide ho2
        clear hn hb2 ho2 hg2
        have HSZ := hide (unhide HB2).size
        go_wp2_with (at_builtin; refine wpList_append_own _ rfl _ _ 28 rfl w.heap.size 30 i0 _ 5 72 Tryz.underlying28 (unhide HI).1 (unhide HI).2.1 (unhide HI).2.2.1 (unhide HI).2.2.2 rfl (by decide) _ _ _ rfl (unhide HO1) ⟨g2, 0, none⟩ (T.kid k).cnt cap2 (acells (T.kid k).all) rfl (by rw [acells_len, PT.all_length]) ((unhide HO2).cells rfl) (acells_one _) (by have := unhide HS; unfold maxLen; omega) (by have := unhide HS; omega) (unhide HSZ) ?_; intro v' w3 hown' hgrow _; have HO3 := hide hown'; have HG3 := hide hgrow; clear hown' hgrow)
        go_roundw
        case rel =>
          refine ⟨k + 1, by omega, by go_num, ?_, (unhide HB2).grown (unhide HG3) (unhide HSZ) (fun g hg => (unhide HOL g hg).1)⟩
          have h := unhide HO3
          rw [← acells_append, Nat.add_assoc] at h
          exact h
        case measure => simp [intOf]; omega
      · have hk' : k = T.len := by omega
        have HO := hide (And.intro ho hb)
        clear ho hb
        go_wp2_with fail
        go_ret
        refine ⟨_, rfl, ?_, (unhide HO).2⟩
        have h := (unhide HO).1
        rw [hk', ← (unhide HD).2.2.1, ← (unhide HD).2.2.2] at h
        exact h
theorem all_any : ∀ T : PT, AllSays T := PT.ind all_step
/-- A list of patterns that lies in memory of the call's own: one entry. -/
theorem own_at {w : World} {B g cap : Nat} {L : List PT} (h : w.ownsRow B 30 5 (.slice (some ⟨g, 0, none⟩) L.length cap) L.length (acells L)) (i : Nat) (hi : i < L.length) :
    w.cell? ⟨g, i * 5, none⟩ = some (.int .i64 L[i].k) ∧ w.cell? ⟨g, i * 5 + 1, none⟩ = some (.string L[i].t) ∧ w.cell? ⟨g, i * 5 + 2, none⟩ = some (.int .i64 L[i].n) ∧ w.cell? ⟨g, i * 5 + 3, none⟩ = some (.string L[i].nm) ∧ w.cell? ⟨g, i * 5 + 4, none⟩ = some (.slice L[i].xa L[i].len L[i].cap) := by
  obtain ⟨a, b, c, d, e⟩ := acells_at L i hi
  exact ⟨(h.cellAt _ (by omega)).trans a, (h.cellAt _ (by omega)).trans b, (h.cellAt _ (by omega)).trans c, (h.cellAt _ (by omega)).trans d, (h.cellAt _ (by omega)).trans e⟩
end Go.Proofs.YtpphjddljngkmaaGreatDoor

namespace Go.Proofs.YtpphjddljngkmaaGreatDoor
open Go.RowKit

theorem firstL_zero (L : List PT) (h : ∀ j (hj : j < L.length), errN L[j] = 0) : firstL L = 0 := by
  induction L with
  | nil => rfl
  | cons x L ih =>
    have h0 : errN x = 0 := h 0 (by simp)
    show (if errN x = 0 then firstL L else errN x) = 0
    rw [if_pos h0]
    exact ih fun j hj => h (j + 1) (by simpa using hj)
theorem firstL_at (L : List PT) (k : Nat) (hk : k < L.length) (h : ∀ j (hj : j < k), errN (L[j]'(by omega)) = 0) (he : errN L[k] ≠ 0) : firstL L = errN L[k] := by
  induction L generalizing k with
  | nil => simp at hk
  | cons x L ih =>
    cases k with
    | zero => have h0 : errN x ≠ 0 := he; show (if errN x = 0 then firstL L else errN x) = errN x; rw [if_neg h0]
    | succ k =>
      have h0 : errN x = 0 := h 0 (by omega)
      show (if errN x = 0 then firstL L else errN x) = _
      rw [if_pos h0]
      exact ih k (by simpa using hk) (fun j hj => h (j + 1) (by omega)) he
theorem cnt_mem {T x : PT} : x ∈ T.all → x.cnt ≤ T.cnt := PT.ind (P := fun T => x ∈ T.all → x.cnt ≤ T.cnt) (fun T ih hx => by
  rw [T.all_eq] at hx
  rcases List.mem_cons.1 hx with rfl | hx
  · exact Nat.le_refl _
  · obtain ⟨i, hi, hx⟩ := flatTo_mem.1 hx
    have h1 := ih i hi hx
    have h2 := sumTo_le (fun i => (T.kid i).cnt) (show i + 1 ≤ T.len from hi)
    simp only [sumTo] at h2
    rw [T.cnt_eq]
    omega) T
/-- Where an entry lies. -/
theorem entry_at (g n cap k : Nat) (hk : k < n) (w : World) :
    (Instr.indexAt 28 (.slice (some ⟨g, 0, none⟩) n cap) (.int .i64 (k : Int))).run Tryz.prog w = .ok (.pointer (some ⟨g, k * 5, none⟩)) w := by
  have h0 : (0 : Int) ≤ (k : Int) ∧ (k : Int) < (n : Int) := by omega
  have hs := size_pat
  cases hq : Tryz.prog.info? 30 with
  | none => simp [hq] at hs
  | some i =>
    have hz : i.size = 5 := by simpa [hq] using hs
    simp [Instr.indexAt, asIntOf, run_underlying Tryz.underlying28, h0, sizeOf, typeInfo, hq, hz, Addr.add_lit]
    intro h
    omega
set_option maxRecDepth 100000 in
set_option maxHeartbeats 1000000 in
theorem refWrong_any (T : PT) (w : World) (hT : T.In w) (hN : T.cnt ≤ 1048576) :
    Calls Tryz.prog 24 #[pv T] w fun e w' => e = .returned (.int .i64 T.wrong) ∧ Below w.heap.size w w' := by
  have HZ := hide (fun W (h : Below w.heap.size w W) => refSize_any T W (PT.In.later h hT) hN)
  have HA := hide (fun W (h : Below w.heap.size w W) => all_any T W (PT.In.later h hT) hN)
  have HT := hide hT
  clear hT
  unfold pv at HZ
  unfold pv
  have hk0 := (Below.refl w.heap.size w).alloc (Nat.le_refl _) (.cells #[.int .i64 T.k, .string T.t, .int .i64 T.n, .string T.nm, .slice T.xa T.len T.cap] 30)
  go_enter Tryz.func24, Tryz.ntmps24
  go_wp2_with fail
  refine (unhide HZ _ hk0).mono ?_
  rintro e w1 ⟨rfl, hb1⟩
  have H1 := hide (bnext hk0 hb1)
  obtain ⟨c0, c1, c2, c3, c4⟩ := cells5 (row_below (at_new rfl) hb1)
  clear hk0 hb1 HZ
  unfold sizeRef
  cases hf : T.fits
  · have HW := hide (show T.wrong = 4 by unfold PT.wrong; rw [hf]; rfl)
    clear hf
    go_wp2_with fail
    go_ret
    exact ⟨by rw [unhide HW]; rfl, unhide H1⟩
  · have HW := hide (show T.wrong = firstL T.all by unfold PT.wrong; rw [hf, PT.bad_all]; rfl)
    have h4 : T.cnt ≤ 4096 := by unfold PT.fits at hf; simp at hf; exact hf.1
    clear hf
    go_wp2_with fail
    refine (unhide HA _ (unhide H1)).mono ?_
    rintro e w2 ⟨v, rfl, ho, hb2⟩
    obtain ⟨g, cap, rfl, hg1, hg2⟩ := ho.form T.cnt_pos
    have HO := hide ho
    have H2 := hide (bnext (unhide H1) hb2)
    have hlen := T.all_length
    have HL := hide hlen
    have HM := hide (fun k (hk : k < T.all.length) => (List.getElem_mem hk))
    have HEV := hide (fun x hx => And.intro (PT.In.every (unhide HT) x hx) (cnt_mem hx))
    clear ho hb2 hg1 hg2 hlen c0 c1 c2 c3 c4
    go_wp2_with fail
    go_loopw [20] (fun i wr => ∃ k : Nat, k ≤ T.cnt ∧ i = .int .i64 (k : Int) ∧ wr.ownsRow w1.heap.size 30 5 (.slice (some ⟨g, 0, none⟩) T.cnt cap) T.cnt (acells T.all) ∧ Below w.heap.size w wr ∧ ∀ j (hj : j < T.all.length), j < k → errN (T.all[j]) = 0) (fun i _ => T.cnt - (intOf i).toNat)
    case atStart => exact ⟨0, by omega, rfl, unhide HO, unhide H2, fun j hj h => by omega⟩
    case round =>
      obtain ⟨k, hk, rfl, ho, hb, hz⟩ := hrel
      rcases Nat.lt_or_ge k T.cnt with hkt | hkt
      · have hkl : k < T.all.length := by rw [unhide HL]; exact hkt
        obtain ⟨k0, k1, k2, k3, k4⟩ := own_at (L := T.all) (by rw [unhide HL]; exact ho) k hkl
        have hia := entry_at g T.cnt cap k hkt
        have hX := unhide HEV _ (List.getElem_mem hkl)
        have HZ := hide (fun (he : errN T.all[k] ≠ 0) => firstL_at T.all k hkl (fun j hj => hz j (by omega) hj) he)
        have HN := hide (fun (he : errN T.all[k] = 0) j (hj : j < T.all.length) (h : j < k + 1) => show errN T.all[j] = 0 by
          rcases Nat.lt_or_ge j k with h1 | h1
          · exact hz j hj h1
          · have : j = k := by omega
            subst this; exact he)
        have HX := hide (And.intro (PT.In.later hb hX.1) (show (T.all[k]).len ≤ 4096 by have := (T.all[k]).len_lt; have := hX.2; omega))
        have HO2 := hide ho
        have HB2 := hide hb
        clear hX hz ho hb
        generalize T.all[k] = X at *
        have hn := (Below.refl wr.heap.size wr).alloc (Nat.le_refl _) (.cells #[.int .i64 X.k, .string X.t, .int .i64 X.n, .string X.nm, .slice X.xa X.len X.cap] 30)
        have HC := hide (rnode_any X _ (PT.In.later hn (unhide HX).1) (unhide HX).2)
        unfold pv at HC
        have HH := hide hn
        clear hn
        go_wp2_with fail
        refine (unhide HC).mono ?_
        rintro e w3 ⟨rfl, hb3⟩
        have HB3 := hide (bnext (bnext (unhide HB2) (unhide HH)) hb3)
        have HO3 := hide (own_below (own_below (unhide HO2) (unhide HH)) hb3)
        clear hb3 HC
        by_cases he : errN X = 0
        · have HN2 := hide (unhide HN he)
          rw [he]
          clear he
          go_wp2_with fail
          exact ⟨⟨k + 1, by omega, by go_num, unhide HO3, unhide HB3, unhide HN2⟩, by simp [intOf]; omega⟩
        · have HZ2 := hide (unhide HZ he)
          have hne : (errN X != 0) = true := by rw [bne_iff_ne]; exact he
          clear he
          go_wp2_with fail
          go_ret
          exact ⟨by rw [unhide HW, unhide HZ2]; rfl, unhide HB3⟩
      · have hk' : k = T.cnt := by omega
        have HZ := hide (firstL_zero T.all (fun j hj => hz j hj (by rw [unhide HL] at hj; omega)))
        have HB2 := hide hb
        clear hz ho hb
        go_wp2_with fail
        go_ret
        exact ⟨by rw [unhide HW, unhide HZ]; rfl, unhide HB2⟩
end Go.Proofs.YtpphjddljngkmaaGreatDoor
