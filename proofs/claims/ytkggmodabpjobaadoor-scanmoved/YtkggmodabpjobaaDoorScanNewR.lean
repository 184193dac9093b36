/- What newMachine makes where there are rules. -/
import Derived.Test.YtkggmodabpjobaaDoorScanRoots
namespace Go.Proofs.YtkggmodabpjobaaDoor
open Go.RowKit

set_option maxRecDepth 100000 in
set_option maxHeartbeats 4000000 in
theorem new_any {xa : Option Addr} {cap : Nat} {RL : List (ByteArray × PT)} (T : PT) (s : ByteArray) (fuel room : Nat) (w : World) (hR : RN (fun nm => ruleAt nm RL 0) (.slice xa RL.length cap) w) (hl : RL.length ≤ 1000000) (hT : T.In w) (hs : s.size ≤ 65536) (hcn : T.cnt ≤ 100000) (hBare : NZ T) :
    Calls Tryd.prog 11 #[.slice xa RL.length cap, pv T, .string s, .int .i64 (fuel : Int), .int .i64 (room : Int)] w fun e w' => ∃ g m N, e = .returned (.pointer (some ⟨g, 0, none⟩)) ∧ Rep w' w.heap.size g m N (List.replicate RL.length (-1)) [] [] [] [] ∧ m.s = s ∧ m.rv = .slice xa RL.length cap ∧ m.fuel = fuel ∧ m.room = room ∧ m.ticks = 0 ∧ m.told = 0 ∧ m.shut = false ∧ m.err = 0 ∧ m.begun = false ∧ m.root = 0 ∧ Lies (fun nm => ruleAt nm RL 0) N T 0 ∧ (Fresh 0 N ∧ N.length = T.cnt) ∧ Below w.heap.size w w' := by
  unfold pv
  have HI := hide (And.intro hT (And.intro hBare hR))
  have hmk := make_ints RL.length hl
  have HCl := hide (fun W => clone_any s W (by omega))
  clear hT hBare hR
  go_enter Tryd.func11, Tryd.ntmps11
  go_wp2_with fail
  go_region_with (first | (go_at_call 18; refine (unhide HCl _).mono ?_; rintro e w1 ⟨rfl, hb1⟩))
  · have hba : Below w.heap.size w (w.alloc (.cells #[.int .i64 T.k, .string T.t, .int .i64 T.n, .string T.nm, .slice T.xa T.len T.cap] 24)).drew := ((Below.refl _ _).alloc (Nat.le_refl _) _).drew
    have hsz := hb1.size
    simp only [World.size_drew, World.size_alloc] at hsz
    obtain ⟨w2, hw2⟩ : ∃ w2, w2 = (w1.alloc (.cells (flat inV (List.replicate RL.length 0)).toArray 3)).alloc (.cells #[.string s, (.slice xa RL.length cap), .slice none 0 0, .int .i64 0, .slice (some ⟨w1.heap.size, 0, none⟩) RL.length RL.length, .bool false, .int .i64 0, .int .i64 0, .int .i64 0, .slice none 0 0, .slice none 0 0, .slice none 0 0, .slice none 0 0, .int .i64 0, .int .i64 (room : Int), .int .i64 (fuel : Int), .int .i64 0, .bool false, .int .i64 0] 54) := ⟨_, rfl⟩
    have hb2 : Below w1.heap.size w1 w2 := by rw [hw2]; exact ((Below.refl _ _).alloc (Nat.le_refl _) _).alloc (by simp) _
    have hbel : Below w.heap.size w w2 := bnext (bnext hba hb1) hb2
    have hgr : w2.heap[w1.heap.size + 1]? = some (.cells (msNewR s (.slice xa RL.length cap) w1.heap.size RL.length fuel room).row 54 (0, 0)) := by rw [hw2]; exact at_new (by simp)
    have hrr : w2.heap[w1.heap.size]? = some (.cells (flat inV (List.replicate RL.length 0)).toArray 3 (0, 0)) := by rw [hw2]; exact at_old (by simp) (at_new rfl)
    have hbx : w2.heap[w.heap.size]? = some (.cells #[.int .i64 T.k, .string T.t, .int .i64 T.n, .string T.nm, .slice T.xa T.len T.cap] 24 (0, 0)) := row_below (row_below (W := (w.alloc (.cells #[.int .i64 T.k, .string T.t, .int .i64 T.n, .string T.nm, .slice T.xa T.len T.cap] 24)).drew) (at_new (w := w) rfl) hb1) hb2
    clear hba hb2
    rw [← hw2]
    obtain ⟨g, hg⟩ : ∃ g, g = w1.heap.size + 1 := ⟨_, rfl⟩
    rw [← hg] at hgr
    have r2 := rep_newR (B := w.heap.size) hl hgr hrr (by omega) (by omega)
    have hrg : w1.heap.size ≠ w.heap.size := by omega
    obtain ⟨rg, hrg'⟩ : ∃ rg, rg = w1.heap.size := ⟨_, rfl⟩
    rw [← hrg'] at r2 hrg
    rw [← hg, ← hrg']
    have c4 : w2.cell? ⟨g, 4, none⟩ = some (.slice (some ⟨rg, 0, none⟩) RL.length RL.length) := r2.c4
    have HB := hide hbel
    have HR2 := hide r2
    have HX := hide hbx
    have HG := hide hrg
    clear hgr hrr hbx hbel r2 hw2 hb1 HCl hmk hg hrg hrg' hsz
    go_wp2_with fail
    go_loopw [28] (fun i wr => ∃ k : Nat, k ≤ RL.length ∧ i = .int .i64 (k : Int) ∧ Hid (Rep wr w.heap.size g (msNewR s (.slice xa RL.length cap) rg RL.length fuel room) [] (List.replicate k (-1) ++ List.replicate (RL.length - k) 0) [] [] [] []) ∧ Hid (Below w.heap.size w wr) ∧ Hid (wr.heap[w.heap.size]? = some (.cells #[.int .i64 T.k, .string T.t, .int .i64 T.n, .string T.nm, .slice T.xa T.len T.cap] 24 (0, 0)))) (fun i _ => RL.length - (intOf i).toNat)
    case atStart => exact ⟨0, Nat.zero_le _, rfl, hide (by simpa using unhide HR2), unhide HB, unhide HX⟩
    case round =>
      obtain ⟨k, hk, rfl, HR, HW, HY⟩ := hrel
      clear HR2 HB HX c4
      rcases Nat.lt_or_ge k RL.length with hlt | hge
      · have hlt' : (k : Int) < (RL.length : Int) := by omega
        have c4 : wr.cell? ⟨g, 4, none⟩ = some (.slice (some ⟨rg, 0, none⟩) RL.length RL.length) := (unhide HR).c4
        have hget : (List.replicate k (-1 : Int) ++ List.replicate (RL.length - k) 0)[k]? = some 0 := by rw [List.getElem?_append_right (by simp), List.length_replicate, Nat.sub_self, List.getElem?_replicate, if_pos (by omega)]
        have q0 : wr.cell? ⟨rg, k, none⟩ = some (.int .i64 0) := by
          have := (unhide HR).roots.cell inV_len (g := rg) (cap := RL.length) (i := k) (k := 0) (by simp [msNewR]; omega) hget rfl
          simpa using this
        have q1 : wr.frozen? ⟨rg, k, none⟩ = false := (unhide HR).roots.frozen rfl k
        clear hget
        go_wp2_with fail
        have hls : (List.replicate k (-1 : Int) ++ List.replicate (RL.length - k) 0).set k (-1) = List.replicate (k + 1) (-1) ++ List.replicate (RL.length - (k + 1)) 0 := by
          rw [List.set_append_right _ _ (by simp), List.length_replicate, Nat.sub_self, show RL.length - k = (RL.length - (k + 1)) + 1 by omega, List.replicate_succ, List.set_cons_zero, List.replicate_succ', List.append_assoc]; rfl
        have hro := RepOset (unhide HR) (gn := rg) (a := k) rfl (by simp; omega) (-1)
        rw [hls] at hro
        refine ⟨⟨k + 1, hlt, by simp, hro, below_cell (unhide HW) ((unhide HR).roots.low rfl).1 _ _, (heap_setCell_other wr ⟨rg, k, none⟩ w.heap.size _ (unhide HG).symm).trans (unhide HY)⟩, by simp [intOf]; omega⟩
      · have hge' : ¬ (k : Int) < (RL.length : Int) := by omega
        obtain rfl : k = RL.length := by omega
        have r2 := unhide HR
        rw [Nat.sub_self, List.replicate_zero, List.append_nil] at r2
        have hbx := unhide HY
        have z0 : wr.cell? ⟨w.heap.size, 0, none⟩ = some (.int .i64 T.k) := by rw [cell_of_row _ _ _ _ _ _ hbx]; rfl
        have z1 : wr.cell? ⟨w.heap.size, 1, none⟩ = some (.string T.t) := by rw [cell_of_row _ _ _ _ _ _ hbx]; rfl
        have z2 : wr.cell? ⟨w.heap.size, 2, none⟩ = some (.int .i64 T.n) := by rw [cell_of_row _ _ _ _ _ _ hbx]; rfl
        have z3 : wr.cell? ⟨w.heap.size, 3, none⟩ = some (.string T.nm) := by rw [cell_of_row _ _ _ _ _ _ hbx]; rfl
        have z4 : wr.cell? ⟨w.heap.size, 4, none⟩ = some (.slice T.xa T.len T.cap) := by rw [cell_of_row _ _ _ _ _ _ hbx]; rfl
        have c3 : wr.cell? ⟨g, 3, none⟩ = some (.int .i64 0) := r2.c3
        have HC := hide (lay_anyG (fun nm => ruleAt nm RL 0) T (unhide HI).1 (unhide HW) (Nat.le_refl _) r2 (by simp; omega) (unhide HI).2.1 (unhide HI).2.2)
        unfold pv at HC
        have HR2 := hide r2
        clear hbx r2 HR HY HI
        go_wp2_with fail
        refine (unhide HC).mono ?_
        rintro e w6 ⟨rfl, v, N6, r6, f6, l6, o6, n6⟩
        have d3 := r6.c3
        have e3 := r6.frozen 3
        have H6 := hide (And.intro r6 (And.intro f6 (And.intro l6 (And.intro ((show Fresh 0 [] → Fresh 0 N6 from n6.2) (fun i x _ hx => by simp at hx)) (by simpa using n6.1)))))
        clear r6 f6 l6 o6 n6 HC
        go_wp2_with fail
        go_ret
        obtain ⟨r6, f6, l6, fr6⟩ := unhide H6
        refine ⟨g, _, N6, rfl, r6.put 3 _ { msNewR s _ _ _ fuel room with nv := v, root := 0 } rfl rfl rfl rfl rfl rfl rfl, rfl, rfl, rfl, rfl, rfl, rfl, rfl, rfl, rfl, rfl, l6, fr6, ?_⟩
        exact below_cell (((unhide HW).trans (Fr.below (unhide HR2) f6))) (unhide HR2).low _ _
  · have hba : Below w.heap.size w ((w.alloc (.cells #[.int .i64 T.k, .string T.t, .int .i64 T.n, .string T.nm, .slice T.xa T.len T.cap] 24)).alloc (.cells (flat inV (List.replicate RL.length 0)).toArray 3)).drew := (((Below.refl _ _).alloc (Nat.le_refl _) _).alloc (by simp) _).drew
    have hsz := hb1.size
    simp only [World.size_drew, World.size_alloc] at hsz
    obtain ⟨w2, hw2⟩ : ∃ w2, w2 = w1.alloc (.cells #[.string s, (.slice xa RL.length cap), .slice none 0 0, .int .i64 0, .slice (some ⟨w.heap.size + 1, 0, none⟩) RL.length RL.length, .bool false, .int .i64 0, .int .i64 0, .int .i64 0, .slice none 0 0, .slice none 0 0, .slice none 0 0, .slice none 0 0, .int .i64 0, .int .i64 (room : Int), .int .i64 (fuel : Int), .int .i64 0, .bool false, .int .i64 0] 54) := ⟨_, rfl⟩
    have hb2 : Below w1.heap.size w1 w2 := by rw [hw2]; exact (Below.refl _ _).alloc (Nat.le_refl _) _
    have hbel : Below w.heap.size w w2 := bnext (bnext hba hb1) hb2
    have hgr : w2.heap[w1.heap.size]? = some (.cells (msNewR s (.slice xa RL.length cap) (w.heap.size + 1) RL.length fuel room).row 54 (0, 0)) := by rw [hw2]; exact at_new rfl
    have hrr : w2.heap[w.heap.size + 1]? = some (.cells (flat inV (List.replicate RL.length 0)).toArray 3 (0, 0)) := row_below (row_below (W := ((w.alloc (.cells #[.int .i64 T.k, .string T.t, .int .i64 T.n, .string T.nm, .slice T.xa T.len T.cap] 24)).alloc (.cells (flat inV (List.replicate RL.length 0)).toArray 3)).drew) (at_new (w := w.alloc (.cells #[.int .i64 T.k, .string T.t, .int .i64 T.n, .string T.nm, .slice T.xa T.len T.cap] 24)) (by simp)) hb1) hb2
    have hbx : w2.heap[w.heap.size]? = some (.cells #[.int .i64 T.k, .string T.t, .int .i64 T.n, .string T.nm, .slice T.xa T.len T.cap] 24 (0, 0)) := row_below (row_below (W := ((w.alloc (.cells #[.int .i64 T.k, .string T.t, .int .i64 T.n, .string T.nm, .slice T.xa T.len T.cap] 24)).alloc (.cells (flat inV (List.replicate RL.length 0)).toArray 3)).drew) (at_old (by simp) (at_new (w := w) rfl)) hb1) hb2
    clear hba hb2
    rw [← hw2]
    obtain ⟨g, hg⟩ : ∃ g, g = w1.heap.size := ⟨_, rfl⟩
    rw [← hg] at hgr
    have r2 := rep_newR (B := w.heap.size) hl hgr hrr (by omega) (by omega)
    have hrg : w.heap.size + 1 ≠ w.heap.size := by omega
    obtain ⟨rg, hrg'⟩ : ∃ rg, rg = w.heap.size + 1 := ⟨_, rfl⟩
    rw [← hrg'] at r2 hrg
    rw [← hg, ← hrg']
    have c4 : w2.cell? ⟨g, 4, none⟩ = some (.slice (some ⟨rg, 0, none⟩) RL.length RL.length) := r2.c4
    have HB := hide hbel
    have HR2 := hide r2
    have HX := hide hbx
    have HG := hide hrg
    clear hgr hrr hbx hbel r2 hw2 hb1 HCl hmk hg hrg hrg' hsz
    go_wp2_with fail
    go_loopw [28] (fun i wr => ∃ k : Nat, k ≤ RL.length ∧ i = .int .i64 (k : Int) ∧ Hid (Rep wr w.heap.size g (msNewR s (.slice xa RL.length cap) rg RL.length fuel room) [] (List.replicate k (-1) ++ List.replicate (RL.length - k) 0) [] [] [] []) ∧ Hid (Below w.heap.size w wr) ∧ Hid (wr.heap[w.heap.size]? = some (.cells #[.int .i64 T.k, .string T.t, .int .i64 T.n, .string T.nm, .slice T.xa T.len T.cap] 24 (0, 0)))) (fun i _ => RL.length - (intOf i).toNat)
    case atStart => exact ⟨0, Nat.zero_le _, rfl, hide (by simpa using unhide HR2), unhide HB, unhide HX⟩
    case round =>
      obtain ⟨k, hk, rfl, HR, HW, HY⟩ := hrel
      clear HR2 HB HX c4
      rcases Nat.lt_or_ge k RL.length with hlt | hge
      · have hlt' : (k : Int) < (RL.length : Int) := by omega
        have c4 : wr.cell? ⟨g, 4, none⟩ = some (.slice (some ⟨rg, 0, none⟩) RL.length RL.length) := (unhide HR).c4
        have hget : (List.replicate k (-1 : Int) ++ List.replicate (RL.length - k) 0)[k]? = some 0 := by rw [List.getElem?_append_right (by simp), List.length_replicate, Nat.sub_self, List.getElem?_replicate, if_pos (by omega)]
        have q0 : wr.cell? ⟨rg, k, none⟩ = some (.int .i64 0) := by
          have := (unhide HR).roots.cell inV_len (g := rg) (cap := RL.length) (i := k) (k := 0) (by simp [msNewR]; omega) hget rfl
          simpa using this
        have q1 : wr.frozen? ⟨rg, k, none⟩ = false := (unhide HR).roots.frozen rfl k
        clear hget
        go_wp2_with fail
        have hls : (List.replicate k (-1 : Int) ++ List.replicate (RL.length - k) 0).set k (-1) = List.replicate (k + 1) (-1) ++ List.replicate (RL.length - (k + 1)) 0 := by
          rw [List.set_append_right _ _ (by simp), List.length_replicate, Nat.sub_self, show RL.length - k = (RL.length - (k + 1)) + 1 by omega, List.replicate_succ, List.set_cons_zero, List.replicate_succ', List.append_assoc]; rfl
        have hro := RepOset (unhide HR) (gn := rg) (a := k) rfl (by simp; omega) (-1)
        rw [hls] at hro
        refine ⟨⟨k + 1, hlt, by simp, hro, below_cell (unhide HW) ((unhide HR).roots.low rfl).1 _ _, (heap_setCell_other wr ⟨rg, k, none⟩ w.heap.size _ (unhide HG).symm).trans (unhide HY)⟩, by simp [intOf]; omega⟩
      · have hge' : ¬ (k : Int) < (RL.length : Int) := by omega
        obtain rfl : k = RL.length := by omega
        have r2 := unhide HR
        rw [Nat.sub_self, List.replicate_zero, List.append_nil] at r2
        have hbx := unhide HY
        have z0 : wr.cell? ⟨w.heap.size, 0, none⟩ = some (.int .i64 T.k) := by rw [cell_of_row _ _ _ _ _ _ hbx]; rfl
        have z1 : wr.cell? ⟨w.heap.size, 1, none⟩ = some (.string T.t) := by rw [cell_of_row _ _ _ _ _ _ hbx]; rfl
        have z2 : wr.cell? ⟨w.heap.size, 2, none⟩ = some (.int .i64 T.n) := by rw [cell_of_row _ _ _ _ _ _ hbx]; rfl
        have z3 : wr.cell? ⟨w.heap.size, 3, none⟩ = some (.string T.nm) := by rw [cell_of_row _ _ _ _ _ _ hbx]; rfl
        have z4 : wr.cell? ⟨w.heap.size, 4, none⟩ = some (.slice T.xa T.len T.cap) := by rw [cell_of_row _ _ _ _ _ _ hbx]; rfl
        have c3 : wr.cell? ⟨g, 3, none⟩ = some (.int .i64 0) := r2.c3
        have HC := hide (lay_anyG (fun nm => ruleAt nm RL 0) T (unhide HI).1 (unhide HW) (Nat.le_refl _) r2 (by simp; omega) (unhide HI).2.1 (unhide HI).2.2)
        unfold pv at HC
        have HR2 := hide r2
        clear hbx r2 HR HY HI
        go_wp2_with fail
        refine (unhide HC).mono ?_
        rintro e w6 ⟨rfl, v, N6, r6, f6, l6, o6, n6⟩
        have d3 := r6.c3
        have e3 := r6.frozen 3
        have H6 := hide (And.intro r6 (And.intro f6 (And.intro l6 (And.intro ((show Fresh 0 [] → Fresh 0 N6 from n6.2) (fun i x _ hx => by simp at hx)) (by simpa using n6.1)))))
        clear r6 f6 l6 o6 n6 HC
        go_wp2_with fail
        go_ret
        obtain ⟨r6, f6, l6, fr6⟩ := unhide H6
        refine ⟨g, _, N6, rfl, r6.put 3 _ { msNewR s _ _ _ fuel room with nv := v, root := 0 } rfl rfl rfl rfl rfl rfl rfl, rfl, rfl, rfl, rfl, rfl, rfl, rfl, rfl, rfl, rfl, l6, fr6, ?_⟩
        exact below_cell (((unhide HW).trans (Fr.below (unhide HR2) f6))) (unhide HR2).low _ _
end Go.Proofs.YtkggmodabpjobaaDoor
