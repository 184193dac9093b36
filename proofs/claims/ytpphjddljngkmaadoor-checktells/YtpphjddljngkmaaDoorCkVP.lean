/- What is come to: where labels lead, where functions begin. -/
import Derived.Test.YtpphjddljngkmaaDoorCkUP
namespace Go.Proofs.YtpphjddljngkmaaDoor
open Go.RowKit

set_option maxHeartbeats 400000 in
theorem canFail_any (k : Int) (w : World) : Calls Tryd.prog 47 #[.int .i64 k] w fun e w' => e = .returned (.bool (canF k)) ∧ w' = w := by
  by_cases h1 : k = 1
  · have HP := hide (show canF k = false by unfold canF; rw [decide_eq_true h1]; rfl)
    have q1 : (k == 1) = true := by rw [beq_iff_eq]; exact h1
    have r1 : (k != 1) = false := by rw [bne, q1]; rfl
    clear h1
    go_enter Tryd.func47, Tryd.ntmps47
    go_wp2_with fail
    go_ret
    exact ⟨by rw [unhide HP]; rfl, rfl⟩
  · have q1 : (k == 1) = false := by rw [beq_eq_false_iff_ne]; exact h1
    have r1 : (k != 1) = true := by rw [bne, q1]; rfl
    by_cases h6 : k = 6
    · have HP := hide (show canF k = false by unfold canF; rw [decide_eq_true h6]; simp)
      have q6 : (k == 6) = true := by rw [beq_iff_eq]; exact h6
      have r6 : (k != 6) = false := by rw [bne, q6]; rfl
      clear h1 h6
      go_enter Tryd.func47, Tryd.ntmps47
      go_wp2_with fail
      go_ret
      exact ⟨by rw [unhide HP]; rfl, rfl⟩
    · have q6 : (k == 6) = false := by rw [beq_eq_false_iff_ne]; exact h6
      have r6 : (k != 6) = true := by rw [bne, q6]; rfl
      by_cases h7 : k = 7
      · have HP := hide (show canF k = false by unfold canF; rw [decide_eq_true h7]; simp)
        have q7 : (k == 7) = true := by rw [beq_iff_eq]; exact h7
        have r7 : (k != 7) = false := by rw [bne, q7]; rfl
        clear h1 h6 h7
        go_enter Tryd.func47, Tryd.ntmps47
        go_wp2_with fail
        go_ret
        exact ⟨by rw [unhide HP]; rfl, rfl⟩
      · have HP := hide (show canF k = true by unfold canF; rw [decide_eq_false h1, decide_eq_false h6, decide_eq_false h7]; rfl)
        have q7 : (k == 7) = false := by rw [beq_eq_false_iff_ne]; exact h7
        have r7 : (k != 7) = true := by rw [bne, q7]; rfl
        clear h1 h6 h7
        go_enter Tryd.func47, Tryd.ntmps47
        go_wp2_with fail
        go_ret
        exact ⟨by rw [unhide HP]; rfl, rfl⟩
theorem lab_le {P : List SV} {c : CS} (hG : Good P P.length c) (hP : P.length ≤ 1000) (t : ByteArray) : ∃ m : Nat, (c.fl t).getD 0 = (m : Int) ∧ m ≤ 1000 := by
  cases hf : c.fl t with
  | none => exact ⟨0, rfl, by omega⟩
  | some x =>
    obtain ⟨m, rfl, hm⟩ := hG.lab t x hf
    exact ⟨m, rfl, by omega⟩
set_option maxRecDepth 100000 in
set_option maxHeartbeats 4000000 in
theorem lead_any {B z bl bf n : Nat} {pv : Value} {P : List SV} {c : CS} {wb rb N : Nat} {q : List Bool × List Nat} (w : World) (t : ByteArray) (i : Nat) (h : WkM B z bl bf n pv c wb rb N q w) (hG : Good P P.length c) (hP : P.length ≤ 1000) (hi : i ≤ 1000) (ht : t.size ≤ maxLen) :
    Calls Tryd.prog 46 #[.pointer (some ⟨wb, 0, none⟩), .string t, .int .i64 (i : Int)] w (ComePost B z bl bf n pv c wb rb N ((leadN c.fl i t).foldl comeN q) w) := by
  have HL := hide (show leadN c.fl i t = if t.toList.isEmpty = true then [i + 1] else if lout t = true then [] else [((c.fl t).getD 0).toNat] from rfl)
  have HLO := hide (leadsOut_any t w)
  cases he : t.toList.isEmpty
  · cases hlo : lout t
    · rw [hlo] at HLO
      obtain ⟨m, hm, hm2⟩ := lab_le hG hP t
      have HQ := hide (show (leadN c.fl i t).foldl comeN q = comeN q m by rw [unhide HL, if_neg (by rw [he]; decide), if_neg (by rw [hlo]; decide), hm, Int.toNat_natCast]; rfl)
      have HC := hide (come_any w m h (by omega))
      have c0 := h.c0
      have z2 := h.ck.c2
      have HMI := hide h.ck.lab
      generalize (leadN c.fl i t).foldl comeN q = qq at *
      clear h hlo
      go_enter Tryd.func46, Tryd.ntmps46
      go_wp2_with (first
        | (go_at_call 33; refine (unhide HLO).mono ?_; rintro e w ⟨rfl, rfl⟩)
        | (at_lookup; refine wpl_look rfl _ _ rfl rfl (unhide HMI) t rfl ht ?_; rw [hm])
        | fail)
      refine (unhide HC).mono ?_
      rintro e w2 ⟨rfl, hp⟩
      have HZ := hide hp
      clear hp
      go_wp2_with fail
      go_end0
      exact ⟨rfl, by rw [unhide HQ]; exact unhide HZ⟩
    · rw [hlo] at HLO
      have HQ := hide (show (leadN c.fl i t).foldl comeN q = q by rw [unhide HL, if_neg (by rw [he]; decide), if_pos hlo]; rfl)
      have HW := hide h
      generalize (leadN c.fl i t).foldl comeN q = qq at *
      clear h hlo
      go_enter Tryd.func46, Tryd.ntmps46
      go_wp2_with (first
        | (go_at_call 33; refine (unhide HLO).mono ?_; rintro e w ⟨rfl, rfl⟩)
        | fail)
      go_end0
      exact ⟨rfl, by rw [unhide HQ]; exact ⟨unhide HW, Stay.refl _ _⟩⟩
  · have HQ := hide (show (leadN c.fl i t).foldl comeN q = comeN q (i + 1) by rw [unhide HL, if_pos he]; rfl)
    have HC := hide (come_any w (i + 1) h (by omega))
    generalize (leadN c.fl i t).foldl comeN q = qq at *
    clear h
    go_enter Tryd.func46, Tryd.ntmps46
    go_wp2_with fail
    refine (unhide HC).mono ?_
    rintro e w2 ⟨rfl, hp⟩
    have HZ := hide hp
    clear hp
    go_wp2_with fail
    go_end0
    exact ⟨rfl, by rw [unhide HQ]; exact unhide HZ⟩
theorem en_cell (D : SV) : D.cells.toList[18]? = some (.string D.en) := rfl
set_option maxRecDepth 100000 in
set_option maxHeartbeats 4000000 in
theorem enter_any {B z bl bf n : Nat} {V : PV} {P : List SV} {c : CS} {wb rb N : Nat} {q : List Bool × List Nat} (T : PT) (w : World) (hT : T.In w) (hE : Env B w V P) (h : WkM B z bl bf n (V.v P.length) c wb rb N q w) (hG : Good P P.length c) (hP : P.length ≤ 1000) :
    Calls Tryd.prog 48 #[.pointer (some ⟨wb, 0, none⟩), pv T] w (ComePost B z bl bf n (V.v P.length) c wb rb N ((entN P c T).foldl comeN q) w) := by
  have hBw := h.ck.le
  have htn := hT.name
  have HW := hide h
  have HE := hide hE
  have HG := hide hG
  have HIF := hide (fun W (h : CkM B z bl bf n (V.v P.length) c W) => isFunction_any (o := 2) h.c3 h.fns htn)
  have HEN := hide (show entN P c T = match c.ff T.nm with | none => [] | some x => match P[x.toNat]? with | some D => [((c.fl D.en).getD 0).toNat] | none => [] from rfl)
  have HQE := hide (show (entN P c T).foldl comeN q = (entN P c T).foldl comeN q from rfl)
  unfold pv
  obtain ⟨w1, hw1⟩ : ∃ w1, w1 = w.alloc (.cells #[.int .i64 T.k, .string T.t, .int .i64 T.n, .string T.nm, .slice T.xa T.len T.cap] 43) := ⟨_, rfl⟩
  have hb1 : Below w.heap.size w w1 := by rw [hw1]; exact (Below.refl _ _).alloc (Nat.le_refl _) _
  have hr1 : w1.heap[w.heap.size]? = some (.cells #[.int .i64 T.k, .string T.t, .int .i64 T.n, .string T.nm, .slice T.xa T.len T.cap] 43 (0, 0)) := by rw [hw1]; exact at_new rfl
  have HB1 := hide hb1
  have HR1 := hide hr1
  have HRW := hide hw1
  have d3 : w1.cell? ⟨w.heap.size, 3, none⟩ = some (.string T.nm) := by rw [cell_of_row _ _ _ _ _ _ hr1]; rfl
  have HW1 := hide (h.later hb1)
  have c0 := (h.later hb1).c0
  have z3 := (h.later hb1).ck.c3
  clear hT hE h hG hb1 hr1 hw1
  cases hf : c.ff T.nm with
  | none =>
    have HQ := hide (show (entN P c T).foldl comeN q = q by rw [unhide HEN, hf]; rfl)
    simp only [hf] at HIF
    generalize (entN P c T).foldl comeN q = qq at *
    clear hf HEN HQE
    go_enter Tryd.func48, Tryd.ntmps48
    go_wp2_with fail
    rw [show w.alloc (.cells #[.int .i64 T.k, .string T.t, .int .i64 T.n, .string T.nm, .slice T.xa T.len T.cap] 43) = w1 from (unhide HRW).symm]
    go_quiet (first | (go_at_call 35; exact Calls.quiet_of_same (unhide HIF _ ((unhide HW1).ck.same (World.heap_drewN _ _)))))
    have HZ := hide (show WkM B z bl bf n (V.v P.length) c wb rb N qq (w1.drewN nq) ∧ Stay B w (w1.drewN nq) from ⟨by rw [unhide HQ]; exact (unhide HW1).same (World.heap_drewN _ _), Stay.below (below_drewN (unhide HB1) nq) hBw⟩)
    generalize w1.drewN nq = w2 at *
    go_wp2_with fail
    go_end0
    exact ⟨rfl, unhide HZ⟩
  | some x =>
    obtain ⟨m, D, rfl, hm, hD, hD7⟩ := (unhide HG).fun_ _ _ hf
    obtain ⟨u, hu, hu2⟩ := lab_le (unhide HG) hP D.en
    have HQ := hide (show (entN P c T).foldl comeN q = comeN q u by rw [unhide HEN, hf]; simp only [Int.toNat_natCast, hD, hu]; rfl)
    have hgd : (c.ff T.nm).getD 0 = (m : Int) := by rw [hf]; rfl
    simp only [hf] at HIF
    have hen := (((unhide HE).prog w (Below.refl _ _)).row m D hD).2.txt.2.2.1
    generalize (entN P c T).foldl comeN q = qq at *
    clear hf hD7 HEN HQE
    go_enter Tryd.func48, Tryd.ntmps48
    go_wp2_with fail
    rw [show w.alloc (.cells #[.int .i64 T.k, .string T.t, .int .i64 T.n, .string T.nm, .slice T.xa T.len T.cap] 43) = w1 from (unhide HRW).symm]
    go_quiet (first | (go_at_call 35; exact Calls.quiet_of_same (unhide HIF _ ((unhide HW1).ck.same (World.heap_drewN _ _)))))
    have hh2 : (w1.drewN nq).heap = w1.heap := World.heap_drewN _ _
    have HB2 := hide (below_drewN (unhide HB1) nq)
    generalize w1.drewN nq = w2 at *
    have HW2 := hide ((unhide HW1).same hh2)
    have HR2 := hide (show w2.heap[w.heap.size]? = some (.cells #[.int .i64 T.k, .string T.t, .int .i64 T.n, .string T.nm, .slice T.xa T.len T.cap] 43 (0, 0)) by rw [hh2]; exact unhide HR1)
    have hpm := ((unhide HE).prog w2 ((unhide HB2).mono hBw))
    have hat := hpm.at_ (by omega)
    have HROW := hide (fun W (q : Below w2.heap.size w2 W) => (((unhide HE).prog W (((unhide HB2).mono hBw).trans (q.mono (by have := (unhide HB2).size; omega)))).row m D hD).1)
    have HPS := hide (en_cell D)
    have HON := hide (sv_one D)
    have hD24 : D.cells.toList.length = 24 := sv_size D
    obtain ⟨L, hL⟩ : ∃ L, L = D.cells.toList := ⟨_, rfl⟩
    have HC := hide (show L.toArray = D.cells by rw [hL])
    rw [← hL] at HROW HPS hD24
    rw [← unhide HC] at HON
    have hix : ∀ w, (Instr.indexAt 22 (V.v P.length) (.int .i64 (m : Int))).run Tryd.prog w = .ok (.pointer (some ⟨V.gb, V.ob + m * 24, none⟩)) w := fun w => by unfold PV.v; rw [hat]; exact idx24 hm w
    have HCZ := hide (fun W (q : Below w2.heap.size w2 W) => (unhide HW2).later q)
    have HCB := hide (fun W (q : Below w2.heap.size w2 W) => row_below (unhide HR2) q)
    clear hh2 hpm hL d3 c0 z3 HR1 HW1
    go_wp2_with fail
    have hS : Below w2.heap.size w2 w2.drew := (Below.refl _ _).drew
    refine startE (by kernel_rfl) 21 (fun W => Below w2.heap.size w2 W) ⟨by kernel_rfl, by kernel_rfl, by kernel_rfl, rfl⟩ ?_
    intro F
    refine takeE F (i := 0) (oi := _) (v := ?v0a) rfl (by kernel_rfl) (by kernel_rfl) (by rfl) (fun _ _ _ h => h) hS (Or.inl ⟨by rfl, ?y0a⟩) ?r0a
    case y0a => (intro w9 hSw; (go_simp <;> (try with_reducible rfl)))
    (try simp only [List.getElem_toArray, List.getElem_cons_zero])
    (try go_frame)
    refine takeE F (i := 1) (oi := _) (v := ?v1a) rfl (by kernel_rfl) (by kernel_rfl) (by rfl) (fun _ _ _ h => h) hS (Or.inl ⟨by rfl, ?y1a⟩) ?r1a
    case y1a => (intro w9 hSw; (go_simp <;> (try with_reducible rfl)))
    (try simp only [List.getElem_toArray, List.getElem_cons_succ, List.getElem_cons_zero])
    (try go_frame)
    refine takeE F (i := 2) (oi := _) (v := ?v2a) rfl (by kernel_rfl) (by kernel_rfl) (by rfl) (fun _ _ _ h => h) hS (Or.inl ⟨by rfl, ?y2a⟩) ?r2a
    case y2a => (intro w9 hSw; (go_simp <;> (try with_reducible rfl)))
    (try simp only [List.getElem_toArray, List.getElem_cons_succ, List.getElem_cons_zero])
    (try go_frame)
    refine takeE F (i := 3) (oi := _) (v := ?v3a) rfl (by kernel_rfl) (by kernel_rfl) (by rfl) (fun _ _ _ h => h) hS (Or.inl ⟨by rfl, ?y3a⟩) ?r3a
    case y3a => (intro w9 hSw; have g := (unhide HCZ w9 hSw).c0; (go_simp <;> (try with_reducible rfl)))
    (try simp only [List.getElem_toArray, List.getElem_cons_succ, List.getElem_cons_zero])
    (try go_frame)
    refine takeE F (i := 4) (oi := _) (v := ?v4a) rfl (by kernel_rfl) (by kernel_rfl) (by rfl) (fun _ _ _ h => h) hS (Or.inl ⟨by rfl, ?y4a⟩) ?r4a
    case y4a => (intro w9 hSw; (go_simp <;> (try with_reducible rfl)))
    (try simp only [List.getElem_toArray, List.getElem_cons_succ, List.getElem_cons_zero])
    (try go_frame)
    refine takeE F (i := 5) (oi := _) (v := ?v5a) rfl (by kernel_rfl) (by kernel_rfl) (by rfl) (fun _ _ _ h => h) hS (Or.inl ⟨by rfl, ?y5a⟩) ?r5a
    case y5a => (intro w9 hSw; (go_simp <;> (try with_reducible rfl)))
    (try simp only [List.getElem_toArray, List.getElem_cons_succ, List.getElem_cons_zero])
    (try go_frame)
    refine takeE F (i := 6) (oi := _) (v := ?v6a) rfl (by kernel_rfl) (by kernel_rfl) (by rfl) (fun _ _ _ h => h) hS (Or.inl ⟨by rfl, ?y6a⟩) ?r6a
    case y6a => (intro w9 hSw; have g := (unhide HCZ w9 hSw).ck.c4; (go_simp <;> (try with_reducible rfl)))
    (try simp only [List.getElem_toArray, List.getElem_cons_succ, List.getElem_cons_zero])
    (try go_frame)
    refine takeE F (i := 7) (oi := _) (v := ?v7a) rfl (by kernel_rfl) (by kernel_rfl) (by rfl) (fun _ _ _ h => h) hS (Or.inl ⟨by rfl, ?y7a⟩) ?r7a
    case y7a => (intro w9 hSw; (go_simp <;> (try with_reducible rfl)))
    (try simp only [List.getElem_toArray, List.getElem_cons_succ, List.getElem_cons_zero])
    (try go_frame)
    refine takeE F (i := 8) (oi := _) (v := ?v8a) rfl (by kernel_rfl) (by kernel_rfl) (by rfl) (fun _ _ _ h => h) hS (Or.inl ⟨by rfl, ?y8a⟩) ?r8a
    case y8a => (intro w9 hSw; (go_simp <;> (try with_reducible rfl)))
    (try simp only [List.getElem_toArray, List.getElem_cons_succ, List.getElem_cons_zero])
    (try go_frame)
    refine takeE F (i := 9) (oi := _) (v := ?v9a) rfl (by kernel_rfl) (by kernel_rfl) (by rfl) (fun _ _ _ h => h) hS (Or.inl ⟨by rfl, ?y9a⟩) ?r9a
    case y9a => (intro w9 hSw; (go_simp <;> (try with_reducible rfl)))
    (try simp only [List.getElem_toArray, List.getElem_cons_succ, List.getElem_cons_zero])
    (try go_frame)
    refine takeE F (i := 10) (oi := _) (v := ?v10a) rfl (by kernel_rfl) (by kernel_rfl) (by rfl) (fun _ _ _ h => h) hS (Or.inl ⟨by rfl, ?y10a⟩) ?r10a
    case y10a => (intro w9 hSw; have g := (unhide HCZ w9 hSw).c0; (go_simp <;> (try with_reducible rfl)))
    (try simp only [List.getElem_toArray, List.getElem_cons_succ, List.getElem_cons_zero])
    (try go_frame)
    refine takeE F (i := 11) (oi := _) (v := ?v11a) rfl (by kernel_rfl) (by kernel_rfl) (by rfl) (fun _ _ _ h => h) hS (Or.inl ⟨by rfl, ?y11a⟩) ?r11a
    case y11a => (intro w9 hSw; (go_simp <;> (try with_reducible rfl)))
    (try simp only [List.getElem_toArray, List.getElem_cons_succ, List.getElem_cons_zero])
    (try go_frame)
    refine takeE F (i := 12) (oi := _) (v := ?v12a) rfl (by kernel_rfl) (by kernel_rfl) (by rfl) (fun _ _ _ h => h) hS (Or.inl ⟨by rfl, ?y12a⟩) ?r12a
    case y12a => (intro w9 hSw; (go_simp <;> (try with_reducible rfl)))
    (try simp only [List.getElem_toArray, List.getElem_cons_succ, List.getElem_cons_zero])
    (try go_frame)
    refine takeE F (i := 13) (oi := _) (v := ?v13a) rfl (by kernel_rfl) (by kernel_rfl) (by rfl) (fun _ _ _ h => h) hS (Or.inl ⟨by rfl, ?y13a⟩) ?r13a
    case y13a => (intro w9 hSw; (go_simp <;> (try with_reducible rfl)))
    (try simp only [List.getElem_toArray, List.getElem_cons_succ, List.getElem_cons_zero])
    (try go_frame)
    refine takeE F (i := 14) (oi := _) (v := ?v14a) rfl (by kernel_rfl) (by kernel_rfl) (by rfl) (fun _ _ _ h => h) hS (Or.inl ⟨by rfl, ?y14a⟩) ?r14a
    case y14a => (intro w9 hSw; have g := (unhide HCZ w9 hSw).ck.c3; (go_simp <;> (try with_reducible rfl)))
    (try simp only [List.getElem_toArray, List.getElem_cons_succ, List.getElem_cons_zero])
    (try go_frame)
    refine takeE F (i := 15) (oi := _) (v := ?v15a) rfl (by kernel_rfl) (by kernel_rfl) (by rfl) (fun _ _ _ h => h) hS (Or.inl ⟨by rfl, ?y15a⟩) ?r15a
    case y15a => (intro w9 hSw; (go_simp <;> (try with_reducible rfl)))
    (try simp only [List.getElem_toArray, List.getElem_cons_succ, List.getElem_cons_zero])
    (try go_frame)
    refine takeE F (i := 16) (oi := _) (v := ?v16a) rfl (by kernel_rfl) (by kernel_rfl) (by rfl) (fun _ _ _ h => h) hS (Or.inl ⟨by rfl, ?y16a⟩) ?r16a
    case y16a => (intro w9 hSw; have h3 : w9.cell? ⟨w.heap.size, 3, none⟩ = some (.string T.nm) := (cell_of_row _ _ _ _ _ _ (unhide HCB w9 hSw)).trans rfl; (go_simp <;> (try with_reducible rfl)))
    (try simp only [List.getElem_toArray, List.getElem_cons_succ, List.getElem_cons_zero])
    (try go_frame)
    refine takeE F (i := 17) (oi := _) (v := ?v17a) rfl (by kernel_rfl) (by kernel_rfl) (by rfl) (fun _ _ _ h => h) hS ?y17a ?r17a
    case y17a =>
      (try simp only [List.getElem_toArray, List.getElem_cons_succ, List.getElem_cons_zero])
      refine ys_to (ys_look (by rfl) _ _ rfl rfl T.nm rfl htn (fun W q => (unhide HCZ W q).ck.fns)) ?_
      with_reducible rfl
    (try simp only [List.getElem_toArray, List.getElem_cons_succ, List.getElem_cons_zero])
    (try go_frame)
    rw [hgd]
    refine takeE F (i := 18) (oi := _) (v := ?v18a) rfl (by kernel_rfl) (by kernel_rfl) (by rfl) (fun _ _ _ h => h) hS (Or.inl ⟨by rfl, ?y18a⟩) ?r18a
    case y18a => (intro w9 hSw; (go_simp <;> (try with_reducible rfl)))
    (try simp only [List.getElem_toArray, List.getElem_cons_succ, List.getElem_cons_zero])
    (try go_frame)
    refine takeE F (i := 19) (oi := _) (v := ?v19a) rfl (by kernel_rfl) (by kernel_rfl) (by rfl) (fun _ _ _ h => h) hS ?y19a ?r19a
    case y19a =>
      (try simp only [List.getElem_toArray, List.getElem_cons_succ, List.getElem_cons_zero])
      refine ys_to (ys_mid (by rfl) _ rfl V.gb (V.ob + m * 24) rfl L hD24 (fun W q => unhide HROW W q)) ?_
      with_reducible rfl
    (try simp only [List.getElem_toArray, List.getElem_cons_succ, List.getElem_cons_zero])
    (try go_frame)
    refine stepE (i := 20) (by kernel_rfl) rfl (by rfl) (fun K3 hK3 => ?_)
    go_simp
    refine hK3 _ _ (hS.alloc (Nat.le_refl _) _) ?_
    refine lastE (by kernel_rfl) rfl (by kernel_rfl) (fun K4 hK4 => ?_)
    refine wanted_op2 rfl (wp_store_row 49 _ _ rfl _ L.toArray rfl rfl 49 _ (at_new rfl) (size_stmt.trans (by rw [List.size_toArray, hD24])) (by rw [show L.toArray.size = 24 from List.size_toArray.trans hD24]; rfl) (unhide HON) ?_)
    refine hK4 _ _ ?_
    (try simp only [List.getElem_toArray, List.getElem_cons_succ, List.getElem_cons_zero])
    (try go_frame)
    clear hK4 hK3 hix F hS
    generalize hw3 : World.setRow _ _ _ = w3
    have hb3 : Below w2.heap.size w2 w3 := by rw [← hw3]; exact below_row1 ((Below.refl _ _).alloc (Nat.le_refl _) _).drew (Nat.le_refl _)
    have hr3 : w3.heap[w2.heap.size]? = some (.cells L.toArray 49 (0, 0)) := by rw [← hw3]; exact row_setRow (at_new rfl)
    have HW3 := hide ((unhide HW2).later hb3)
    have HB3 := hide (bnext (unhide HB2) hb3)
    have HK18 := hide (show ∀ W, Below w3.heap.size w3 W → W.cell? ⟨w2.heap.size, 18, none⟩ = some (.string D.en) from fun W q => by rw [cell_of_row _ _ _ _ _ _ (row_below hr3 q), List.getElem?_toArray]; exact unhide HPS)
    have HW4 := hide (fun W (q : Below w3.heap.size w3 W) => (unhide HW3).later q)
    clear hw3 hb3 hr3 HCZ HCB HROW HPS
    go_wp2_with fail
    have hS : Below w3.heap.size w3 w3.drew := (Below.refl _ _).drew
    refine startE (by kernel_rfl) 12 (fun W => Below w3.heap.size w3 W) ⟨by kernel_rfl, by kernel_rfl, by kernel_rfl, rfl⟩ ?_
    intro F
    refine takeE F (i := 0) (oi := _) (v := ?v0b) rfl (by kernel_rfl) (by kernel_rfl) (by rfl) (fun _ _ _ h => h) hS (Or.inl ⟨by rfl, ?y0b⟩) ?r0b
    case y0b => (intro w9 hSw; (go_simp <;> (try with_reducible rfl)))
    (try simp only [List.getElem_toArray, List.getElem_cons_zero])
    (try go_frame)
    refine takeE F (i := 1) (oi := _) (v := ?v1b) rfl (by kernel_rfl) (by kernel_rfl) (by rfl) (fun _ _ _ h => h) hS (Or.inl ⟨by rfl, ?y1b⟩) ?r1b
    case y1b => (intro w9 hSw; (go_simp <;> (try with_reducible rfl)))
    (try simp only [List.getElem_toArray, List.getElem_cons_succ, List.getElem_cons_zero])
    (try go_frame)
    refine takeE F (i := 2) (oi := _) (v := ?v2b) rfl (by kernel_rfl) (by kernel_rfl) (by rfl) (fun _ _ _ h => h) hS (Or.inl ⟨by rfl, ?y2b⟩) ?r2b
    case y2b => (intro w9 hSw; (go_simp <;> (try with_reducible rfl)))
    (try simp only [List.getElem_toArray, List.getElem_cons_succ, List.getElem_cons_zero])
    (try go_frame)
    refine takeE F (i := 3) (oi := _) (v := ?v3b) rfl (by kernel_rfl) (by kernel_rfl) (by rfl) (fun _ _ _ h => h) hS (Or.inl ⟨by rfl, ?y3b⟩) ?r3b
    case y3b => (intro w9 hSw; (go_simp <;> (try with_reducible rfl)))
    (try simp only [List.getElem_toArray, List.getElem_cons_succ, List.getElem_cons_zero])
    (try go_frame)
    refine takeE F (i := 4) (oi := _) (v := ?v4b) rfl (by kernel_rfl) (by kernel_rfl) (by rfl) (fun _ _ _ h => h) hS (Or.inl ⟨by rfl, ?y4b⟩) ?r4b
    case y4b => (intro w9 hSw; have g := (unhide HW4 w9 hSw).c0; (go_simp <;> (try with_reducible rfl)))
    (try simp only [List.getElem_toArray, List.getElem_cons_succ, List.getElem_cons_zero])
    (try go_frame)
    refine takeE F (i := 5) (oi := _) (v := ?v5b) rfl (by kernel_rfl) (by kernel_rfl) (by rfl) (fun _ _ _ h => h) hS (Or.inl ⟨by rfl, ?y5b⟩) ?r5b
    case y5b => (intro w9 hSw; (go_simp <;> (try with_reducible rfl)))
    (try simp only [List.getElem_toArray, List.getElem_cons_succ, List.getElem_cons_zero])
    (try go_frame)
    refine takeE F (i := 6) (oi := _) (v := ?v6b) rfl (by kernel_rfl) (by kernel_rfl) (by rfl) (fun _ _ _ h => h) hS (Or.inl ⟨by rfl, ?y6b⟩) ?r6b
    case y6b => (intro w9 hSw; (go_simp <;> (try with_reducible rfl)))
    (try simp only [List.getElem_toArray, List.getElem_cons_succ, List.getElem_cons_zero])
    (try go_frame)
    refine takeE F (i := 7) (oi := _) (v := ?v7b) rfl (by kernel_rfl) (by kernel_rfl) (by rfl) (fun _ _ _ h => h) hS (Or.inl ⟨by rfl, ?y7b⟩) ?r7b
    case y7b => (intro w9 hSw; (go_simp <;> (try with_reducible rfl)))
    (try simp only [List.getElem_toArray, List.getElem_cons_succ, List.getElem_cons_zero])
    (try go_frame)
    refine takeE F (i := 8) (oi := _) (v := ?v8b) rfl (by kernel_rfl) (by kernel_rfl) (by rfl) (fun _ _ _ h => h) hS (Or.inl ⟨by rfl, ?y8b⟩) ?r8b
    case y8b => (intro w9 hSw; have g := (unhide HW4 w9 hSw).ck.c2; (go_simp <;> (try with_reducible rfl)))
    (try simp only [List.getElem_toArray, List.getElem_cons_succ, List.getElem_cons_zero])
    (try go_frame)
    refine takeE F (i := 9) (oi := _) (v := ?v9b) rfl (by kernel_rfl) (by kernel_rfl) (by rfl) (fun _ _ _ h => h) hS (Or.inl ⟨by rfl, ?y9b⟩) ?r9b
    case y9b => (intro w9 hSw; (go_simp <;> (try with_reducible rfl)))
    (try simp only [List.getElem_toArray, List.getElem_cons_succ, List.getElem_cons_zero])
    (try go_frame)
    refine takeE F (i := 10) (oi := _) (v := ?v10b) rfl (by kernel_rfl) (by kernel_rfl) (by rfl) (fun _ _ _ h => h) hS (Or.inl ⟨by rfl, ?y10b⟩) ?r10b
    case y10b => (intro w9 hSw; have g := unhide HK18 w9 hSw; (go_simp <;> (try with_reducible rfl)))
    (try simp only [List.getElem_toArray, List.getElem_cons_succ, List.getElem_cons_zero])
    (try go_frame)
    refine takeE F (i := 11) (oi := _) (v := ?v11b) rfl (by kernel_rfl) (by kernel_rfl) (by rfl) (fun _ _ _ h => h) hS ?y11b ?r11b
    case y11b =>
      (try simp only [List.getElem_toArray, List.getElem_cons_succ, List.getElem_cons_zero])
      refine ys_to (ys_look (by rfl) _ _ rfl rfl D.en rfl hen (fun W q => (unhide HW4 W q).ck.lab)) ?_
      with_reducible rfl
    (try simp only [List.getElem_toArray, List.getElem_cons_succ, List.getElem_cons_zero])
    (try go_frame)
    rw [hu]
    refine lastE (by kernel_rfl) rfl (by kernel_rfl) (fun K4 hK4 => ?_)
    go_simp
    refine (come_any _ u (unhide HW4 _ hS) (by omega)).mono ?_
    rintro e w6 ⟨rfl, hM6, hs6⟩
    refine hK4 _ _ ?_
    (try go_frame)
    have HZ := hide (show WkM B z bl bf n (V.v P.length) c wb rb N qq w6 ∧ Stay B w w6 from ⟨by rw [unhide HQ]; exact hM6, (Stay.below (bnext (unhide HB3) hS) hBw).trans hs6⟩)
    clear hM6 hs6 hK4 hS F
    go_wp2_with fail
    go_end0
    exact ⟨rfl, unhide HZ⟩
end Go.Proofs.YtpphjddljngkmaaDoor
