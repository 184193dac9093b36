/- The document's All of an expression: each node ahead of its kids. -/
import Derived.Test.YtpphjddljngkmaaDoorRefWrong4M
import Derived.Test.YtpphjddljngkmaaDoorStAM
namespace Go.Proofs.YtpphjddljngkmaaDoor
open Go.RowKit

theorem info_exp3 : (Tryd.prog.info? 43).map (fun i => (i.zero, i.size, i.bytes)) = some (some (.agg #[.int .i64 0, .string ⟨#[]⟩, .int .i64 0, .string ⟨#[]⟩, .slice none 0 0]), 5, 72) := by kernel_rfl
def AllXSays (T : PT) : Prop := ∀ (w : World), T.In w → T.cnt ≤ 1048576 →
  Calls Tryd.prog 17 #[.agg #[.int .i64 T.k, .string T.t, .int .i64 T.n, .string T.nm, .slice T.xa T.len T.cap]] w fun e w' => ∃ v, e = .returned v ∧ w'.ownsRow w.heap.size 43 5 v T.cnt (acells T.all) ∧ Below w.heap.size w w'
set_option maxRecDepth 100000 in
set_option maxHeartbeats 1000000 in
theorem allX_step (T : PT) (ih : ∀ i, i < T.len → AllXSays (T.kid i)) : AllXSays T := by
  intro w hT hN
  have hmax := hT.max
  unfold maxLen at hmax
  have hinf := info_exp3
  cases hi : Tryd.prog.info? 43 with
  | none => simp [hi] at hinf
  | some i0 =>
    simp only [hi, Option.map_some, Option.some.injEq, Prod.mk.injEq] at hinf
    obtain ⟨hz0, hz1, hz2⟩ := hinf
    have HI := hide (And.intro hi (And.intro hz0 (And.intro hz1 hz2)))
    clear hi hz0 hz1 hz2
    have HD := hide (And.intro hT (And.intro ih (And.intro T.cnt_eq T.all_eq)))
    clear hT ih
    go_enter Tryd.func17, Tryd.ntmps17
    go_wp2_with fail
    go_loopw [3, 11] (fun v i wr => ∃ k : Nat, k ≤ T.len ∧ i = .int .i64 (k : Int) ∧ wr.ownsRow w.heap.size 43 5 v (1 + sumTo (fun i => (T.kid i).cnt) k) (acells (T :: flatTo (fun i => (T.kid i).all) k)) ∧ Below w.heap.size w wr) (fun _ i _ => T.len - (intOf i).toNat)
    case atStart =>
      refine ⟨0, by omega, rfl, ?_, ((Below.refl w.heap.size w).alloc (Nat.le_refl _) _).alloc (by simp) _⟩
      have h := World.ownsRow_lit (base := w.heap.size) (e := 43) (size := 5) (w.alloc (.cells #[.int .i64 T.k, .string T.t, .int .i64 T.n, .string T.nm, .slice T.xa T.len T.cap] 43)) #[.int .i64 T.k, .string T.t, .int .i64 T.n, .string T.nm, .slice T.xa T.len T.cap] 1 (by simp) (by decide) rfl
      rw [World.size_alloc] at h
      exact h
    case round =>
      obtain ⟨k, hk, rfl, ho, hb⟩ := hrel
      rcases Nat.lt_or_ge k T.len with hkt | hkt
      · obtain ⟨hT, ih, hcnt, -⟩ := unhide HD
        obtain ⟨k0, k1, k2, k3, k4⟩ := hT.cells hkt
        have k0 := cell_later hb k0
        have k1 := cell_later hb k1
        have k2 := cell_later hb k2
        have k3 := cell_later hb k3
        have k4 := cell_later hb k4
        unfold PT.kv at k4
        have hia := kidx_at hT hkt
        have hsum := sumTo_le (fun i => (T.kid i).cnt) (show k + 1 ≤ T.len from hkt)
        simp only [sumTo] at hsum
        have HS := hide (show 1 + sumTo (fun i => (T.kid i).cnt) k + (T.kid k).cnt ≤ 1048576 by omega)
        have HC := hide (ih k hkt)
        have HT := hide (PT.In.later hb (hT.kids hkt))
        have HO := hide ho
        have HB := hide hb
        clear hT ih hcnt hsum ho hb
        go_wp2_with fail
        have hn := (Below.refl wr.heap.size wr).alloc (Nat.le_refl _) (.cells #[.int .i64 (T.kid k).k, .string (T.kid k).t, .int .i64 (T.kid k).n, .string (T.kid k).nm, .slice (T.kid k).xa (T.kid k).len (T.kid k).cap] 43)
        refine (unhide HC _ (PT.In.later hn (unhide HT)) (by have := unhide HS; omega)).mono ?_
        rintro e w2 ⟨v2, rfl, ho2, hb2⟩
        have HO1 := hide (own_below (own_below (unhide HO) hn) hb2)
        have HB2 := hide (bnext (bnext (unhide HB) hn) hb2)
        have HOL := hide (unhide HO).lt
        obtain ⟨g2, cap2, rfl, hg2, hgl⟩ := ho2.form (T.kid k).cnt_pos
        have HO2 := hide ho2
        clear hn hb2 ho2 hg2
        have HSZ := hide (unhide HB2).size
        go_wp2_with (at_builtin; refine wpList_append_own _ rfl _ _ 41 rfl w.heap.size 43 i0 _ 5 72 Tryd.underlying41 (unhide HI).1 (unhide HI).2.1 (unhide HI).2.2.1 (unhide HI).2.2.2 rfl (by decide) _ _ _ rfl (unhide HO1) ⟨g2, 0, none⟩ (T.kid k).cnt cap2 (acells (T.kid k).all) rfl (by rw [acells_len, PT.all_length]) ((unhide HO2).cells rfl) (acells_one _) (by have := unhide HS; unfold maxLen; omega) (by have := unhide HS; omega) (unhide HSZ) ?_; intro v' w3 hown' hgrow _; have HO3 := hide hown'; have HG3 := hide hgrow; clear hown' hgrow)
        go_roundw
        case rel =>
          refine ⟨k + 1, by omega, by go_num, ?_, (unhide HB2).grown (unhide HG3) (unhide HSZ) (fun g hg => (unhide HOL g hg).1)⟩
          have h := unhide HO3
          rw [← acells_append, Nat.add_assoc] at h
          exact h
        case measure => simp [intOf]; omega
      · have hk' : k = T.len := by omega
        have HO := hide (And.intro ho hb)
        clear ho hb
        go_wp2_with fail
        go_ret
        refine ⟨_, rfl, ?_, (unhide HO).2⟩
        have h := (unhide HO).1
        rw [hk', ← (unhide HD).2.2.1, ← (unhide HD).2.2.2] at h
        exact h
theorem allX_any : ∀ T : PT, AllXSays T := PT.ind allX_step
/-- A list of expressions that lies in memory of the call's own: one entry. -/
theorem own_atX {w : World} {B g cap : Nat} {L : List PT} (h : w.ownsRow B 43 5 (.slice (some ⟨g, 0, none⟩) L.length cap) L.length (acells L)) (i : Nat) (hi : i < L.length) :
    w.cell? ⟨g, i * 5, none⟩ = some (.int .i64 L[i].k) ∧ w.cell? ⟨g, i * 5 + 1, none⟩ = some (.string L[i].t) ∧ w.cell? ⟨g, i * 5 + 2, none⟩ = some (.int .i64 L[i].n) ∧ w.cell? ⟨g, i * 5 + 3, none⟩ = some (.string L[i].nm) ∧ w.cell? ⟨g, i * 5 + 4, none⟩ = some (.slice L[i].xa L[i].len L[i].cap) := by
  obtain ⟨a, b, c, d, e⟩ := acells_at L i hi
  exact ⟨(h.cellAt _ (by omega)).trans a, (h.cellAt _ (by omega)).trans b, (h.cellAt _ (by omega)).trans c, (h.cellAt _ (by omega)).trans d, (h.cellAt _ (by omega)).trans e⟩
end Go.Proofs.YtpphjddljngkmaaDoor
