/- What pats.wrongBelow and Wrong do, for every pattern. -/
import Derived.Test.YtpphjddljngkmaaDoorPatWrongP
namespace Go.Proofs.YtpphjddljngkmaaDoor
open Go.RowKit

def BadSays (T : PT) : Prop := ∀ (w : World), T.In w → Shapes w →
  Calls Tryd.prog 66 #[.agg #[.int .i64 T.k, .string T.t, .int .i64 T.n, .string T.nm, .slice T.xa T.len T.cap]] w fun e w' => e = .returned (.int .i64 T.bad) ∧ Below w.heap.size w w'
theorem firstTo_stays (f : Nat → Int) {i n : Nat} (h : i ≤ n) (hf : firstTo f i ≠ 0) : firstTo f n = firstTo f i := by
  induction n with
  | zero => congr 1; omega
  | succ n ih =>
    rcases Nat.lt_or_ge i (n + 1) with h1 | h1
    · rw [firstTo, ih (by omega), if_neg hf]
    · congr 1; omega
set_option maxRecDepth 100000 in
set_option maxHeartbeats 1000000 in
theorem bad_step (T : PT) (ih : ∀ i, i < T.len → BadSays (T.kid i)) : BadSays T := by
  intro w hT hS
  have HN := hide (fun W (h : Below w.heap.size w W) => node_any T W (PT.In.later h hT) (hS.later h))
  unfold pv at HN
  have hmax := hT.max
  unfold maxLen at hmax
  have HD := hide (And.intro hT (And.intro hS (And.intro ih T.bad_eq)))
  clear hT hS ih
  have hk0 := (Below.refl w.heap.size w).alloc (Nat.le_refl _) (.cells #[.int .i64 T.k, .string T.t, .int .i64 T.n, .string T.nm, .slice T.xa T.len T.cap] 46)
  go_enter Tryd.func66, Tryd.ntmps66
  go_wp2_with fail
  refine (unhide HN _ hk0).mono ?_
  rintro e w1 ⟨rfl, hb1⟩
  have hb := bnext hk0 hb1
  have c4 : w1.cell? ⟨w.heap.size, 4, none⟩ = some (.slice T.xa T.len T.cap) := cell_later hb1 (cr (at_new rfl))
  have HB := hide hb
  clear hk0 hb1 hb HN
  by_cases he : errN T = 0
  · have H0 : Hid (T.bad = firstTo (fun i => (T.kid i).bad) T.len) := hide (by rw [(unhide HD).2.2.2, if_pos he])
    rw [he]
    clear he
    go_wp2_with fail
    go_loopw [15] (fun i wr => ∃ k : Nat, k ≤ T.len ∧ i = .int .i64 (k : Int) ∧ Below w.heap.size w wr ∧ firstTo (fun i => (T.kid i).bad) k = 0) (fun i _ => T.len - (intOf i).toNat)
    case atStart => exact ⟨0, by omega, rfl, unhide HB, rfl⟩
    case round =>
      obtain ⟨k, hk, rfl, hbr, hf⟩ := hrel
      clear c4
      have HF := hide hf
      clear hf
      rcases Nat.lt_or_ge k T.len with hkt | hkt
      · obtain ⟨hT, hS, ih, -⟩ := unhide HD
        obtain ⟨k0, k1, k2, k3, k4⟩ := hT.cells hkt
        have k0 := cell_later hbr k0
        have k1 := cell_later hbr k1
        have k2 := cell_later hbr k2
        have k3 := cell_later hbr k3
        have k4 := cell_later hbr k4
        unfold PT.kv at k4
        have hia := kid_at hT hkt
        have HX := hide (And.intro (PT.In.later hbr (hT.kids hkt)) (hS.later hbr))
        have HI := hide (ih k hkt)
        have HBR := hide hbr
        clear hT hS ih hbr
        go_wp2_with fail
        have hn := (Below.refl wr.heap.size wr).alloc (Nat.le_refl _) (.cells #[.int .i64 (T.kid k).k, .string (T.kid k).t, .int .i64 (T.kid k).n, .string (T.kid k).nm, .slice (T.kid k).xa (T.kid k).len (T.kid k).cap] 46)
        refine (unhide HI _ (PT.In.later hn (unhide HX).1) ((unhide HX).2.later hn)).mono ?_
        rintro e w2 ⟨rfl, hb2⟩
        have HB2 := hide (bnext (bnext (unhide HBR) hn) hb2)
        clear hn hb2
        by_cases he : (T.kid k).bad = 0
        · have HW : Hid (firstTo (fun i => (T.kid i).bad) (k + 1) = 0) := hide (by rw [firstTo, if_pos (unhide HF)]; exact he)
          rw [he]
          clear he
          go_wp2_with fail
          exact ⟨⟨k + 1, by omega, by go_num, unhide HB2, unhide HW⟩, by simp [intOf]; omega⟩
        · have HW : Hid (T.bad = (T.kid k).bad) := hide (by
            have h1 : firstTo (fun i => (T.kid i).bad) (k + 1) = (T.kid k).bad := by rw [firstTo, if_pos (unhide HF)]
            rw [unhide H0, firstTo_stays _ (show k + 1 ≤ T.len from hkt) (by rw [h1]; exact he), h1])
          have hne : ((T.kid k).bad != 0) = true := by rw [bne_iff_ne]; exact he
          clear he
          go_wp2_with fail
          go_ret
          exact ⟨by rw [unhide HW]; rfl, unhide HB2⟩
      · have hk' : k = T.len := by omega
        have HBR := hide hbr
        clear hbr
        go_wp2_with fail
        go_ret
        exact ⟨by rw [unhide H0, ← hk', unhide HF]; rfl, unhide HBR⟩
  · have H0 : Hid (T.bad = errN T) := hide (by rw [(unhide HD).2.2.2, if_neg he])
    have hne : (errN T != 0) = true := by rw [bne_iff_ne]; exact he
    clear he
    go_wp2_with fail
    go_ret
    exact ⟨by rw [unhide H0]; rfl, unhide HB⟩
theorem bad_any : ∀ T : PT, BadSays T := PT.ind bad_step
set_option maxRecDepth 100000 in
set_option maxHeartbeats 1000000 in
theorem wrong_any (T : PT) (w : World) (hT : T.In w) (hS : Shapes w) :
    Calls Tryd.prog 52 #[pv T] w fun e w' => e = .returned (.int .i64 T.wrong) ∧ Below w.heap.size w w' := by
  have HZ := hide (fun W (h : Below w.heap.size w W) => size_any T W (PT.In.later h hT))
  have HB := hide (fun W (h : Below w.heap.size w W) => bad_any T W (PT.In.later h hT) (hS.later h))
  clear hT hS
  unfold pv at HZ
  unfold pv
  have hk0 := (Below.refl w.heap.size w).alloc (Nat.le_refl _) (.cells #[.int .i64 T.k, .string T.t, .int .i64 T.n, .string T.nm, .slice T.xa T.len T.cap] 46)
  go_enter Tryd.func52, Tryd.ntmps52
  go_wp2_with fail
  refine (unhide HZ _ hk0).mono ?_
  rintro e w1 ⟨rfl, hb1⟩
  have H1 := hide (bnext hk0 hb1)
  have hrow : w1.heap[w.heap.size]? = some (.cells #[.int .i64 T.k, .string T.t, .int .i64 T.n, .string T.nm, .slice T.xa T.len T.cap] 46 (0, 0)) := row_below (at_new rfl) hb1
  have c0 : w1.cell? ⟨w.heap.size, 0, none⟩ = some (.int .i64 T.k) := cr hrow
  have c1 : w1.cell? ⟨w.heap.size, 1, none⟩ = some (.string T.t) := cr hrow
  have c2 : w1.cell? ⟨w.heap.size, 2, none⟩ = some (.int .i64 T.n) := cr hrow
  have c3 : w1.cell? ⟨w.heap.size, 3, none⟩ = some (.string T.nm) := cr hrow
  have c4 : w1.cell? ⟨w.heap.size, 4, none⟩ = some (.slice T.xa T.len T.cap) := cr hrow
  clear hk0 hb1 hrow HZ
  unfold sizeSaid
  cases hf : T.fits
  · have HW : Hid (T.wrong = 4) := hide (by unfold PT.wrong; rw [hf]; rfl)
    clear hf
    go_wp2_with fail
    go_ret
    exact ⟨by rw [unhide HW]; rfl, unhide H1⟩
  · have HW : Hid (T.wrong = T.bad) := hide (by unfold PT.wrong; rw [hf]; rfl)
    clear hf
    go_wp2_with fail
    refine (unhide HB _ (unhide H1)).mono ?_
    rintro e w2 ⟨rfl, hb2⟩
    have H2 := hide (bnext (unhide H1) hb2)
    clear hb2
    go_wp2_with fail
    go_ret
    exact ⟨by rw [unhide HW]; rfl, unhide H2⟩
end Go.Proofs.YtpphjddljngkmaaDoor
