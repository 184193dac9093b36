/- What the document's Size does, for every pattern of at most a million nodes. -/
import Derived.Test.YtpphjddljngkmaaGreatDoorRefSize4aP
namespace Go.Proofs.YtpphjddljngkmaaGreatDoor
open Go.RowKit

def sizeRef (T : PT) : Value := if T.fits then .tuple #[.int .i64 (T.cnt : Int), .int .i64 (T.dep : Int), .bool true] else .tuple #[.int .i64 0, .int .i64 0, .bool false]
def xcells (X : PT) (d : Nat) : Obj := .cells #[.int .i64 X.k, .string X.t, .int .i64 X.n, .string X.nm, .slice X.xa X.len X.cap, .int .i64 (d : Int)] 84 (0, 0)
theorem news_one (W : World) (X : PT) (d g : Nat) (h : W.heap[g]? = some (xcells X d)) : ∀ j u, (qc (X, d))[j]? = some u → W.cell? ((⟨g, 0, none⟩ : Addr).add j) = some u := by
  intro j u hj
  rw [Addr.add_lit, Nat.zero_add, cell_of_row _ _ _ _ _ _ h]
  simpa [qc] using hj
structure Mid (w wr : World) (T : PT) (g off cap a m : Nat) (Q : List (PT × Nat)) : Prop where
  que : Que wr w.heap.size g off cap Q
  bel : Below w.heap.size w wr
  ins : ∀ x ∈ Q, x.1.In w ∧ x.2 ≤ 201
  sum : a + qsum Q = T.cnt
  top : max m (qmax Q) = T.dep
  few : a ≤ 4096
  low : m ≤ 200
theorem mid_start (w : World) (T : PT) (K : Obj) (hT : T.In w) : Mid w ((w.alloc K).alloc (xcells T 1)) T (w.heap.size + 1) 0 1 0 0 [(T, 1)] := by
  have hr : ((w.alloc K).alloc (xcells T 1)).heap[w.heap.size + 1]? = some (xcells T 1) := at_new (by simp)
  refine ⟨⟨by omega, by simp, by simp, by decide, fun j hj => ?_, fun j u hj => ?_⟩, ((Below.refl w.heap.size w).alloc (Nat.le_refl _) _).alloc (by simp) _, ?_, by simp [qsum], by simp [qmax], by omega, by omega⟩
  · rw [cell_of_row _ _ _ _ _ _ hr]
    refine ⟨?_, frozen_of_row _ _ _ _ _ hr⟩
    rw [Array.getElem?_eq_getElem (by show _ < 6; omega)]; rfl
  · have := news_one _ T 1 _ hr j u (by simpa [qcells] using hj)
    rw [Addr.add_lit] at this
    exact this
  · intro x hx
    rw [List.mem_singleton] at hx
    subst hx
    exact ⟨hT, by simp⟩
theorem mid_end {w wr : World} {T : PT} {g off cap a m : Nat} (h : Mid w wr T g off cap a m []) : sizeRef T = .tuple #[.int .i64 (a : Int), .int .i64 (m : Int), .bool true] := by
  have h1 := h.sum
  have h2 := h.top
  have h3 := h.few
  have h4 := h.low
  simp only [qsum, qmax] at h1 h2
  unfold sizeRef
  rw [if_pos (by unfold PT.fits; simp; omega), ← h1, ← h2, Nat.add_zero, show max m 0 = m by omega]
theorem mid_many {w wr : World} {T X : PT} {g off cap a m d : Nat} {Q : List (PT × Nat)} (h : Mid w wr T g off cap a m ((X, d) :: Q)) (ha : 4096 < a + 1) : sizeRef T = .tuple #[.int .i64 0, .int .i64 0, .bool false] := by
  have h1 := h.sum
  have h2 := X.cnt_pos
  simp only [qsum] at h1
  unfold sizeRef
  rw [if_neg (by unfold PT.fits; simp; omega)]
theorem mid_deep {w wr : World} {T X : PT} {g off cap a m d : Nat} {Q : List (PT × Nat)} (h : Mid w wr T g off cap a m ((X, d) :: Q)) (ha : 200 < d) : sizeRef T = .tuple #[.int .i64 0, .int .i64 0, .bool false] := by
  have h1 := h.top
  have h2 := X.dep_pos
  simp only [qmax] at h1
  unfold sizeRef
  rw [if_neg (by unfold PT.fits; simp; omega)]
/-- Behind a node: its kids stand at the queue's end. -/
theorem mid_next {w wr w2 : World} {T X : PT} {g off cap a m d M g' off' cap' : Nat} {Q : List (PT × Nat)} (h : Mid w wr T g off cap a m ((X, d) :: Q)) (ha : ¬ 4096 < a + 1) (hd : ¬ 200 < d) (hM : M = max m d)
    (hq : Que w2 w.heap.size g' off' cap' (Q ++ kidsTo X (d + 1) X.len)) (hb : Below w.heap.size w w2) : Mid w w2 T g' off' cap' (a + 1) M (Q ++ kidsTo X (d + 1) X.len) := by
  have h1 := h.sum
  have h2 := h.top
  have h3 := h.low
  have e1 := kidsTo_sum X (d + 1) X.len
  have e2 := kidsTo_max X d X.len
  have e3 := X.cnt_eq
  have e4 := X.dep_eq
  simp only [qsum, qmax] at h1 h2
  refine ⟨hq, hb, fun x hx => ?_, by rw [qsum_append, e1]; omega, by rw [qmax_append]; omega, by omega, by omega⟩
  rcases List.mem_append.1 hx with hx | hx
  · exact h.ins x (List.mem_cons_of_mem _ hx)
  · have hX : X.In w := (h.ins (X, d) (List.mem_cons_self ..)).1
    have : ∀ k, k ≤ X.len → ∀ x ∈ kidsTo X (d + 1) k, x.1.In w ∧ x.2 = d + 1 := by
      intro k
      induction k with
      | zero => intro _ x hx; simp [kidsTo] at hx
      | succ k ih =>
        intro hk x hx
        rcases List.mem_append.1 hx with hx | hx
        · exact ih (by omega) x hx
        · rw [List.mem_singleton] at hx
          subst hx
          exact ⟨hX.kids (by omega), rfl⟩
    obtain ⟨i1, i2⟩ := this X.len (Nat.le_refl _) x hx
    exact ⟨i1, by omega⟩
theorem mid_room {w wr : World} {T X : PT} {g off cap a m d k : Nat} {Q : List (PT × Nat)} (h : Mid w wr T g off cap a m ((X, d) :: Q)) (hk : k ≤ X.len) : (Q ++ kidsTo X (d + 1) k).length ≤ T.cnt := by
  have h1 := h.sum
  have e1 := kidsTo_sum X (d + 1) k
  have e2 := sumTo_le (fun i => (X.kid i).cnt) hk
  have e3 := X.cnt_eq
  have e4 := qlen_le (Q ++ kidsTo X (d + 1) k)
  rw [qsum_append] at e4
  simp only [qsum] at h1
  omega
set_option maxRecDepth 100000 in
set_option maxHeartbeats 1000000 in
theorem refSize_any (T : PT) (w : World) (hT : T.In w) (hN : T.cnt ≤ 1048576) :
    Calls Tryz.prog 38 #[pv T] w fun e w' => e = .returned (sizeRef T) ∧ Below w.heap.size w w' := by
  unfold pv
  have HT := hide hT
  clear hT
  go_enter Tryz.func38, Tryz.ntmps38
  go_wp2_with fail
  go_loopw [5, 6, 7] (fun v n d wr => ∃ g off cap a m Q, v = .slice (some ⟨g, off, none⟩) (Q : List (PT × Nat)).length cap ∧ n = .int .i64 ((a : Nat) : Int) ∧ d = .int .i64 ((m : Nat) : Int) ∧ Mid w wr T g off cap a m Q) (fun _ n _ _ => 4097 - (intOf n).toNat)
  case atStart =>
    exact ⟨w.heap.size + 1, 0, 1, 0, 0, [(T, 1)], rfl, rfl, rfl, mid_start w T _ (unhide HT)⟩
  case round =>
    rename World => W1
    obtain ⟨g, off, cap, a, m, Q, rfl, rfl, rfl, hM⟩ := hrel
    have HM := hide hM
    have ha := hM.few
    have hm := hM.low
    clear hM
    cases Q with
    | nil =>
      go_wp2_with fail
      go_ret3
      exact ⟨by rw [mid_end (unhide HM)]; rfl, (unhide HM).bel⟩
    | cons x Q =>
      obtain ⟨X, d⟩ := x
      obtain ⟨k0, k1, k2, k3, k4, k5⟩ := (unhide HM).que.head
      have hsl := slice_one g off (Q.length + 1) cap (by omega)
      have hd := ((unhide HM).ins (X, d) (List.mem_cons_self ..)).2
      simp only at hd
      rw [List.length_cons] at *
      have HB1 := hide ((unhide HM).bel.alloc (unhide HM).bel.size (xcells X d))
      by_cases h1 : 4096 < a + 1
      · have h1' : 4096 < (a : Int) + 1 := by omega
        rcases Nat.lt_or_ge m d with hmd | hmd
        all_goals
          go_wp2_with fail
          go_ret3
          exact ⟨by rw [mid_many (unhide HM) h1]; rfl, unhide HB1⟩
      · have h1' : ¬ 4096 < (a : Int) + 1 := by omega
        by_cases h2 : 200 < d
        · have h2' : 200 < (d : Int) := by omega
          have hmd : m < d := by omega
          go_wp2_with fail
          go_ret3
          exact ⟨by rw [mid_deep (unhide HM) h2]; rfl, unhide HB1⟩
        · have h2' : ¬ 200 < (d : Int) := by omega
          have hm2 : ¬ 200 < (m : Int) := by omega
          obtain ⟨M, hM, hMx⟩ : ∃ M, ((m < d ∧ d = M) ∨ (¬ m < d ∧ m = M)) ∧ M = max m d := ⟨max m d, by omega, rfl⟩
          have HX := hide hMx
          clear hMx
          have HQ1 := hide (((unhide HM).que.tail).later ((Below.refl W1.heap.size W1).alloc (Nat.le_refl _) (xcells X d)))
          have HR1 := hide (at_new (w := W1) (o := xcells X d) rfl)
          have hgl := (unhide HM).que.lt
          have hXl := ((unhide HM).ins (X, d) (List.mem_cons_self ..)).1.max
          unfold maxLen at hXl
          rcases hM with ⟨hmd, hMM⟩ | ⟨hmd, hMM⟩
          all_goals
            subst hMM
            go_wp2_with fail
            obtain ⟨WX, hWX⟩ : ∃ WX, WX = W1.alloc (xcells X d) := ⟨_, rfl⟩
            rw [← hWX] at HQ1 HR1 HB1
            show Code.wp _ _ _ _ (W1.alloc (xcells X d))
            rw [← hWX]
            clear hWX k0 k1 k2 k3 k4 k5 hsl
            go_loopw [5, 40] (fun v i w2 => ∃ g' off' cap' k, v = .slice (some ⟨g', off', none⟩) (Q.length + k) cap' ∧ i = .int .i64 ((k : Nat) : Int) ∧ k ≤ X.len ∧ Que w2 w.heap.size g' off' cap' (Q ++ kidsTo X (d + 1) k) ∧ Below w.heap.size w w2 ∧ w2.heap[W1.heap.size]? = some (xcells X d) ∧ g' ≠ W1.heap.size) (fun _ i _ => X.len - (intOf i).toNat)
            case atStart => exact ⟨g, cutOff off cap, cap - 1, 0, rfl, rfl, by omega, by rw [kidsTo, List.append_nil]; exact unhide HQ1, unhide HB1, unhide HR1, by omega⟩
            case round =>
              obtain ⟨g', off', cap', k, rfl, rfl, hk, hq, hb, hr, hne⟩ := hrel
              rcases Nat.lt_or_ge k X.len with hkt | hkt
              · have hX : X.In w := ((unhide HM).ins (X, d) (List.mem_cons_self ..)).1
                obtain ⟨k0, k1, k2, k3, k4⟩ := hX.cells hkt
                have k0 := cell_later hb k0
                have k1 := cell_later hb k1
                have k2 := cell_later hb k2
                have k3 := cell_later hb k3
                have k4 := cell_later hb k4
                unfold PT.kv at k4
                have hia := kid_at hX hkt
                have c5 : wr.cell? ⟨W1.heap.size, 5, none⟩ = some (.int .i64 (d : Int)) := by rw [cell_of_row _ _ _ _ _ _ hr]; rfl
                have hlt2 : W1.heap.size < wr.heap.size := (Array.getElem?_eq_some_iff.1 hr).1
                have hlt3 : ¬ W1.heap.size = wr.heap.size := by omega
                have HQ2 := hide hq
                have HBR := hide (And.intro hb (And.intro hr hne))
                have HLn := hide (show (Q ++ kidsTo X (d + 1) k).length = Q.length + k by rw [List.length_append, kidsTo_len])
                have HLm := hide (Nat.le_trans (mid_room (unhide HM) hk) hN)
                clear hX hq hb hr hne
                have hal := fun (o1 o2 : Obj) => ((Below.refl wr.heap.size wr).alloc (Nat.le_refl _) o1).alloc (by simp) o2
                go_wp2_with (at_builtin; refine wpList_append_que _ rfl _ _ rfl w.heap.size g' off' cap' (Q ++ kidsTo X (d + 1) k) (Q.length + k) (unhide HLn) rfl ((unhide HQ2).later (hal _ _)) (Nat.le_trans (unhide HBR).1.size (hal _ _).size) (X.kid k, d + 1) ⟨wr.heap.size + 1, 0, none⟩ 1 rfl (news_one _ _ _ _ (at_new (by simp))) (Nat.le_trans (unhide HLm) (by decide)) ?_; intro g2 off2 cap2 w3 hq3 hg3 hbut; have HQ3 := hide hq3; have HG3 := hide hg3; have HBT := hide hbut; clear hq3 hg3 hbut)
                obtain ⟨hb, hr, hne⟩ := unhide HBR
                refine ⟨⟨g2, off2, cap2, k + 1, rfl, by go_num, by omega, ?_, ?_, ?_, ?_⟩, by simp [intOf]; omega⟩
                · rw [kidsTo, ← List.append_assoc]; exact unhide HQ3
                · exact But.below ((hb.alloc hb.size _).alloc (by have := hb.size; simp; omega) _) (unhide HBT) (unhide HQ2).low
                · exact (unhide HBT).row (fun e => hne e.symm) (at_old (by simp; omega) (at_old (by omega) hr))
                · rcases unhide HG3 with h | h
                  · rw [h]; exact hne
                  · simp at h; omega
              · have hk' : k = X.len := by omega
                subst hk'
                have HQ2 := hide (And.intro hq hb)
                clear hq hb hr hne
                go_wp2_with fail
                exact ⟨⟨g', off', cap', a + 1, _, Q ++ kidsTo X (d + 1) X.len, by rw [List.length_append, kidsTo_len], by go_num, rfl, mid_next (unhide HM) h1 h2 (unhide HX) (unhide HQ2).1 (unhide HQ2).2⟩, by simp [intOf]; omega⟩
end Go.Proofs.YtpphjddljngkmaaGreatDoor
