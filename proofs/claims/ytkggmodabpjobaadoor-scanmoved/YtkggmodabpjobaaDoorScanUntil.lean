/- The first place from here on at which a byte of a node's stands, or one that is none of them; the last stretch is kept. -/
import Derived.Test.YtkggmodabpjobaaDoorScanHas
namespace Go.Proofs.YtkggmodabpjobaaDoor
open Go.RowKit

theorem unt_step (s t : ByteArray) (want : Bool) {j : Nat} (h : j < s.size) : unt s t want j = if inB t (byt s j) = want then j else unt s t want (j + 1) := by
  unfold unt
  rw [show s.size - j = (s.size - (j + 1)) + 1 by omega, untl]
theorem unt_end (s t : ByteArray) (want : Bool) {j : Nat} (h : s.size ≤ j) : unt s t want j = j := by
  unfold unt
  rw [show s.size - j = 0 by omega, untl]
theorem unt_ge (s t : ByteArray) (want : Bool) : ∀ (n j : Nat), s.size - j ≤ n → j ≤ unt s t want j
  | 0, j, h => by rw [unt_end s t want (by omega)]; exact Nat.le_refl _
  | n + 1, j, h => by
    rcases Nat.lt_or_ge j s.size with h1 | h1
    · rw [unt_step s t want h1]
      split
      · exact Nat.le_refl _
      · have := unt_ge s t want n (j + 1) (by omega); omega
    · rw [unt_end s t want h1]; exact Nat.le_refl _
theorem unt_le (s t : ByteArray) (want : Bool) : ∀ (n j : Nat), s.size - j ≤ n → j ≤ s.size → unt s t want j ≤ s.size
  | 0, j, h, hj => by rw [unt_end s t want (by omega)]; exact hj
  | n + 1, j, h, hj => by
    rcases Nat.lt_or_ge j s.size with h1 | h1
    · rw [unt_step s t want h1]
      split
      · exact hj
      · exact unt_le s t want n (j + 1) (by omega) (by omega)
    · rw [unt_end s t want h1]; exact hj
theorem unt_mid (s t : ByteArray) (want : Bool) : ∀ (n i a : Nat), a - i ≤ n → i ≤ a → a ≤ unt s t want i → unt s t want a = unt s t want i
  | 0, i, a, h, h1, h2 => by rw [show a = i by omega]
  | n + 1, i, a, h, h1, h2 => by
    rcases Nat.eq_or_lt_of_le h1 with h3 | h3
    · rw [h3]
    · rcases Nat.lt_or_ge i s.size with h4 | h4
      · rw [unt_step s t want h4] at h2 ⊢
        split at h2
        · omega
        · rename_i h5
          rw [if_neg h5]
          exact unt_mid s t want n (i + 1) a (by omega) h3 h2
      · rw [unt_end s t want h4] at h2; omega

/-- A number in a cell. -/
def intAt (gn o : Nat) (w : World) : Nat := match w.cell? ⟨gn, o, none⟩ with
  | some (.int _ v) => v.toNat
  | _ => 0
/-- The stretch that is kept. -/
def StrW (s : ByteArray) (x : Nd) (want : Bool) : Prop := x.to < x.fr ∨ (0 ≤ x.fr ∧ ∀ j : Nat, x.fr ≤ (j : Int) → (j : Int) ≤ x.to → (unt s x.t want j : Int) = x.to)
theorem strW_mid {s : ByteArray} {x : Nd} {want : Bool} {i j : Nat} {st : Option Nat} (h : unt s x.t want i = j) : StrW s { x with st := st, fr := (i : Int), to := (j : Int) } want :=
  .inr ⟨Int.natCast_nonneg i, fun a h1 h2 => by
    have h1 : (i : Int) ≤ (a : Int) := h1
    have h2 : (a : Int) ≤ (j : Int) := h2
    show ((unt s x.t want a : Nat) : Int) = (j : Int)
    rw [unt_mid s x.t want (a - i) i a (Nat.le_refl _) (by omega) (by omega), h]⟩
def UntPost (w : World) (B g : Nat) (m : MS) (N : List Nd) (O : List Int) (W : List Wr) (C : List Cr) (G S : List Gft) (nd : Nat) (x : Nd) (want : Bool) (i : Nat) (e : Ending) (w' : World) : Prop :=
  ∃ st fr to, e = .returned (.int .i64 (unt m.s x.t want i : Int)) ∧ Rep w' B g m (N.set nd { x with st := st, fr := fr, to := to }) O W C G S ∧ Fr g m m w w' ∧ SetAt w' { x with st := st, fr := fr, to := to } ∧ StrW m.s { x with st := st, fr := fr, to := to } want

set_option maxRecDepth 100000 in
set_option maxHeartbeats 1000000 in
theorem until_old {w : World} {B g gn cap nd i : Nat} {m : MS} {N : List Nd} {O : List Int} {W : List Wr} {C : List Cr} {G S : List Gft} {x : Nd} {want : Bool} (h : Rep w B g m N O W C G S) (hnv : m.nv = .slice (some ⟨gn, 0, none⟩) N.length cap) (hx : N[nd]? = some x) (hset : SetAt w x) (hstr : StrW m.s x want) (h1 : x.fr ≤ (i : Int)) (h2 : (i : Int) ≤ x.to) :
    Calls Tryd.prog 45 #[.pointer (some ⟨g, 0, none⟩), .pointer (some ⟨gn, nd * 10, none⟩), .bool want, .int .i64 (i : Int)] w (UntPost w B g m N O W C G S nd x want i) := by
  have k8 : w.cell? ⟨gn, nd * 10 + 8, none⟩ = some (.int .i64 x.fr) := h.nodes.cell ndV_len hnv hx (k := 8) rfl
  have k9 : w.cell? ⟨gn, nd * 10 + 9, none⟩ = some (.int .i64 x.to) := h.nodes.cell ndV_len hnv hx (k := 9) rfl
  have hu : (unt m.s x.t want i : Int) = x.to := by
    rcases hstr with q | ⟨-, q⟩
    · omega
    · exact q i h1 h2
  have q1 : ¬ (i : Int) < x.fr := by omega
  have q2 : ¬ x.to < (i : Int) := by omega
  have HH := hide (And.intro h (And.intro hset (And.intro hstr (And.intro hu (set_same hx)))))
  clear h hset hstr hu hx
  go_enter Tryd.func45, Tryd.ntmps45
  go_wp2_with fail
  go_ret
  obtain ⟨h, hset, hstr, hu, hs⟩ := unhide HH
  exact ⟨x.st, x.fr, x.to, (by rw [hu]; rfl), (by rw [show ({ x with st := x.st, fr := x.fr, to := x.to } : Nd) = x from rfl, hs]; exact h), Fr.refl _ _ _, hset, hstr⟩

set_option maxRecDepth 100000 in
set_option maxHeartbeats 2000000 in
theorem until_new {w : World} {B g gn cap nd i : Nat} {m : MS} {N : List Nd} {O : List Int} {W : List Wr} {C : List Cr} {G S : List Gft} {x : Nd} {want : Bool} (h : Rep w B g m N O W C G S) (hnv : m.nv = .slice (some ⟨gn, 0, none⟩) N.length cap) (hx : N[nd]? = some x) (hset : SetAt w x) (ht : x.t.size ≤ 65536) (hs : m.s.size ≤ 65536) (hi : i ≤ m.s.size) (hn : (i : Int) < x.fr ∨ x.to < (i : Int)) :
    Calls Tryd.prog 45 #[.pointer (some ⟨g, 0, none⟩), .pointer (some ⟨gn, nd * 10, none⟩), .bool want, .int .i64 (i : Int)] w (UntPost w B g m N O W C G S nd x want i) := by
  have hnl : nd < N.length := (List.getElem?_eq_some_iff.1 hx).1
  have k8 : w.cell? ⟨gn, nd * 10 + 8, none⟩ = some (.int .i64 x.fr) := h.nodes.cell ndV_len hnv hx (k := 8) rfl
  have k9 : w.cell? ⟨gn, nd * 10 + 9, none⟩ = some (.int .i64 x.to) := h.nodes.cell ndV_len hnv hx (k := 9) rfl
  have f8 : w.frozen? ⟨gn, nd * 10 + 8, none⟩ = false := h.nodes.frozen hnv _
  have f9 : w.frozen? ⟨gn, nd * 10 + 9, none⟩ = false := h.nodes.frozen hnv _
  have ho : m.nv.ownBlock = some gn := by rw [hnv]; rfl
  have r1 := RepNset (y := { x with fr := (i : Int) }) (k := 8) h hnv hx (by decide) (v := .int .i64 (i : Int)) rfl
  have r2 := RepNset (y := { x with fr := (i : Int), to := (i : Int) }) (k := 9) r1 hnv (List.getElem?_set_self hnl) (by decide) (v := .int .i64 (i : Int)) rfl
  rw [List.set_set] at r2
  have f2 : Fr g m m w ((w.setCell ⟨gn, nd * 10 + 8, none⟩ (.int .i64 (i : Int))).setCell ⟨gn, nd * 10 + 9, none⟩ (.int .i64 (i : Int))) := (FrNset ho _ _).trans (FrNset ho _ _)
  have hset2 : SetAt ((w.setCell ⟨gn, nd * 10 + 8, none⟩ (.int .i64 (i : Int))).setCell ⟨gn, nd * 10 + 9, none⟩ (.int .i64 (i : Int))) { x with fr := (i : Int), to := (i : Int) } := fun b hb => (SetAt.fr hset h f2) b hb
  have HI := hide (show ∃ (st : Option Nat) (j : Nat), Rep ((w.setCell ⟨gn, nd * 10 + 8, none⟩ (.int .i64 (i : Int))).setCell ⟨gn, nd * 10 + 9, none⟩ (.int .i64 (i : Int))) B g m (N.set nd { x with st := st, fr := (i : Int), to := (j : Int) }) O W C G S ∧ Fr g m m w ((w.setCell ⟨gn, nd * 10 + 8, none⟩ (.int .i64 (i : Int))).setCell ⟨gn, nd * 10 + 9, none⟩ (.int .i64 (i : Int))) ∧ SetAt ((w.setCell ⟨gn, nd * 10 + 8, none⟩ (.int .i64 (i : Int))).setCell ⟨gn, nd * 10 + 9, none⟩ (.int .i64 (i : Int))) { x with st := st, fr := (i : Int), to := (j : Int) } ∧ i ≤ j ∧ j ≤ m.s.size ∧ unt m.s x.t want i = unt m.s x.t want j from ⟨x.st, i, r2, f2, hset2, Nat.le_refl _, hi, rfl⟩)
  have HH := hide (And.intro hnv (And.intro ho (And.intro ht hs)))
  clear h hset hx r1 r2 f2 hset2 hnv ho
  rcases (show (i : Int) < x.fr ∨ (¬ (i : Int) < x.fr ∧ x.to < (i : Int)) by omega) with q1 | ⟨q1, q2⟩
  · clear hn
    go_enter Tryd.func45, Tryd.ntmps45
    go_wp2_with fail
    go_loopw [] (fun wr => ∃ (st : Option Nat) (j : Nat), Rep wr B g m (N.set nd { x with st := st, fr := (i : Int), to := (j : Int) }) O W C G S ∧ Fr g m m w wr ∧ SetAt wr { x with st := st, fr := (i : Int), to := (j : Int) } ∧ i ≤ j ∧ j ≤ m.s.size ∧ unt m.s x.t want i = unt m.s x.t want j) (fun wr => m.s.size - intAt gn (nd * 10 + 9) wr)
    case atStart => exact unhide HI
    case round =>
      clear HI k8 k9 f8 f9
      obtain ⟨st, j, rj, fj, sj, hij, hj, huj⟩ := hrel
      have hxj : (N.set nd { x with st := st, fr := (i : Int), to := (j : Int) })[nd]? = some { x with st := st, fr := (i : Int), to := (j : Int) } := List.getElem?_set_self hnl
      have hnvj : m.nv = .slice (some ⟨gn, 0, none⟩) (N.set nd { x with st := st, fr := (i : Int), to := (j : Int) }).length cap := by rw [List.length_set]; exact (unhide HH).1
      have k9 : wr.cell? ⟨gn, nd * 10 + 9, none⟩ = some (.int .i64 (j : Int)) := rj.nodes.cell ndV_len hnvj hxj (k := 9) rfl
      have c0 := rj.c0
      have hia : intAt gn (nd * 10 + 9) wr = j := by unfold intAt; rw [k9]; exact Int.toNat_natCast j
      have HIA := hide hia
      have HJ := hide (And.intro rj (And.intro fj (And.intro sj huj)))
      rcases Nat.lt_or_ge j m.s.size with hlt | hge
      · have hd : Below wr.heap.size wr wr.drew := (Below.refl _ _).drew
        have HC := hide (has_node (rj.later hd) hnvj hxj (fun b hb => row_below (sj b hb) hd) (unhide HH).2.2.1 hlt (unhide HH).2.2.2)
        have hlt' : (j : Int) < (m.s.size : Int) := by omega
        clear rj fj sj huj hxj hnvj hia hd
        have hB : inB x.t (byt m.s j) = want ∨ inB x.t (byt m.s j) = !want := by cases inB x.t (byt m.s j) <;> cases want <;> simp
        rcases hB with hB | hB
        · have HB := hide hB
          clear hB
          go_wp2_with fail
          go_region_held3 (fun w' => w'.cell? ⟨gn, nd * 10 + 9, none⟩ = some (.int .i64 (j : Int)) ∧ w'.cell? ⟨g, 0, none⟩ = some (.string m.s)) (go_keep) (first | (go_at_call 44; refine (unhide HC).mono ?_; rintro e w5 ⟨b5, rfl, r5, f5, s5⟩; have k9 : w5.cell? ⟨gn, nd * 10 + 9, none⟩ = some (.int .i64 (j : Int)) := r5.nodes.cell ndV_len (by rw [List.set_set, List.length_set]; exact (unhide HH).1) (by rw [List.set_set]; exact List.getElem?_set_self hnl) (k := 9) rfl; have c0 := r5.c0; have H5 := hide (And.intro r5 (And.intro f5 s5)); clear r5 f5 s5; rw [unhide HB]))
          go_wp2_with fail
          go_ret
          obtain ⟨rj, fj, sj, huj⟩ := unhide HJ
          obtain ⟨r5, f5, s5⟩ := unhide H5
          rw [List.set_set] at r5
          have hu : unt m.s x.t want i = j := by rw [huj, unt_step m.s x.t want hlt, if_pos (unhide HB)]
          exact ⟨some b5, (i : Int), (j : Int), (by rw [hu]; rfl), r5, (fj.trans (Fr.later ((Below.refl _ _).drew))).trans f5, s5, strW_mid hu⟩
        · have HB := hide hB
          have hw : wrap64 ((j : Int) + 1) = (j : Int) + 1 := IntWalk.wrap64_in _ (by have := (unhide HH).2.2.2; omega)
          clear hB
          go_wp2_with fail
          go_region_held3 (fun w' => w'.cell? ⟨gn, nd * 10 + 9, none⟩ = some (.int .i64 (j : Int)) ∧ w'.cell? ⟨g, 0, none⟩ = some (.string m.s)) (go_keep) (first | (go_at_call 44; refine (unhide HC).mono ?_; rintro e w5 ⟨b5, rfl, r5, f5, s5⟩; have k9 : w5.cell? ⟨gn, nd * 10 + 9, none⟩ = some (.int .i64 (j : Int)) := r5.nodes.cell ndV_len (by rw [List.set_set, List.length_set]; exact (unhide HH).1) (by rw [List.set_set]; exact List.getElem?_set_self hnl) (k := 9) rfl; have z9 : w5.frozen? ⟨gn, nd * 10 + 9, none⟩ = false := r5.nodes.frozen (unhide HH).1 _; have c0 := r5.c0; have H5 := hide (And.intro r5 (And.intro f5 s5)); clear r5 f5 s5; rw [unhide HB]))
          go_wp2_with fail
          go_roundw
          case rel =>
            obtain ⟨rj, fj, sj, huj⟩ := unhide HJ
            obtain ⟨r5, f5, s5⟩ := unhide H5
            rw [List.set_set] at r5
            have r6 := RepNset (y := { x with st := some b5, fr := (i : Int), to := ((j + 1 : Nat) : Int) }) (k := 9) r5 (unhide HH).1 (List.getElem?_set_self hnl) (by decide) (v := .int .i64 ((j : Int) + 1)) rfl
            rw [List.set_set] at r6
            have f6 : Fr g m m w5 (w5.setCell ⟨gn, nd * 10 + 9, none⟩ (.int .i64 ((j : Int) + 1))) := FrNset (unhide HH).2.1 _ _
            refine ⟨some b5, j + 1, r6, ((fj.trans (Fr.later ((Below.refl _ _).drew))).trans f5).trans f6, fun b hb => (SetAt.fr s5 r5 f6) b hb, by omega, by omega, ?_⟩
            rw [huj, unt_step m.s x.t want hlt, if_neg (by rw [unhide HB]; cases want <;> simp)]
          case measure =>
            have h6 : intAt gn (nd * 10 + 9) (w5.setCell ⟨gn, nd * 10 + 9, none⟩ (.int .i64 ((j : Int) + 1))) = j + 1 := by unfold intAt; rw [World.cell?_setCell_same _ _ _ k9]; exact Int.toNat_natCast (j + 1)
            rw [h6, unhide HIA]
            omega
      · obtain rfl : j = m.s.size := by omega
        clear rj fj sj huj hxj hnvj hia
        go_wp2_with fail
        go_quiet (fail)
        go_wp2_with fail
        go_ret
        obtain ⟨rj, fj, sj, huj⟩ := unhide HJ
        have hu : unt m.s x.t want i = m.s.size := by rw [huj, unt_end m.s x.t want (Nat.le_refl _)]
        have hbn : Below wr.heap.size wr (wr.drewN nq) := below_drewN (Below.refl _ _) nq
        exact ⟨st, (i : Int), (m.s.size : Int), (by rw [hu]; rfl), rj.later hbn, fj.trans (Fr.later hbn), fun b hb => row_below (sj b hb) hbn, strW_mid hu⟩
  · clear hn
    go_enter Tryd.func45, Tryd.ntmps45
    go_wp2_with fail
    go_loopw [] (fun wr => ∃ (st : Option Nat) (j : Nat), Rep wr B g m (N.set nd { x with st := st, fr := (i : Int), to := (j : Int) }) O W C G S ∧ Fr g m m w wr ∧ SetAt wr { x with st := st, fr := (i : Int), to := (j : Int) } ∧ i ≤ j ∧ j ≤ m.s.size ∧ unt m.s x.t want i = unt m.s x.t want j) (fun wr => m.s.size - intAt gn (nd * 10 + 9) wr)
    case atStart => exact unhide HI
    case round =>
      clear HI k8 k9 f8 f9
      obtain ⟨st, j, rj, fj, sj, hij, hj, huj⟩ := hrel
      have hxj : (N.set nd { x with st := st, fr := (i : Int), to := (j : Int) })[nd]? = some { x with st := st, fr := (i : Int), to := (j : Int) } := List.getElem?_set_self hnl
      have hnvj : m.nv = .slice (some ⟨gn, 0, none⟩) (N.set nd { x with st := st, fr := (i : Int), to := (j : Int) }).length cap := by rw [List.length_set]; exact (unhide HH).1
      have k9 : wr.cell? ⟨gn, nd * 10 + 9, none⟩ = some (.int .i64 (j : Int)) := rj.nodes.cell ndV_len hnvj hxj (k := 9) rfl
      have c0 := rj.c0
      have hia : intAt gn (nd * 10 + 9) wr = j := by unfold intAt; rw [k9]; exact Int.toNat_natCast j
      have HIA := hide hia
      have HJ := hide (And.intro rj (And.intro fj (And.intro sj huj)))
      rcases Nat.lt_or_ge j m.s.size with hlt | hge
      · have hd : Below wr.heap.size wr wr.drew := (Below.refl _ _).drew
        have HC := hide (has_node (rj.later hd) hnvj hxj (fun b hb => row_below (sj b hb) hd) (unhide HH).2.2.1 hlt (unhide HH).2.2.2)
        have hlt' : (j : Int) < (m.s.size : Int) := by omega
        clear rj fj sj huj hxj hnvj hia hd
        have hB : inB x.t (byt m.s j) = want ∨ inB x.t (byt m.s j) = !want := by cases inB x.t (byt m.s j) <;> cases want <;> simp
        rcases hB with hB | hB
        · have HB := hide hB
          clear hB
          go_wp2_with fail
          go_region_held3 (fun w' => w'.cell? ⟨gn, nd * 10 + 9, none⟩ = some (.int .i64 (j : Int)) ∧ w'.cell? ⟨g, 0, none⟩ = some (.string m.s)) (go_keep) (first | (go_at_call 44; refine (unhide HC).mono ?_; rintro e w5 ⟨b5, rfl, r5, f5, s5⟩; have k9 : w5.cell? ⟨gn, nd * 10 + 9, none⟩ = some (.int .i64 (j : Int)) := r5.nodes.cell ndV_len (by rw [List.set_set, List.length_set]; exact (unhide HH).1) (by rw [List.set_set]; exact List.getElem?_set_self hnl) (k := 9) rfl; have c0 := r5.c0; have H5 := hide (And.intro r5 (And.intro f5 s5)); clear r5 f5 s5; rw [unhide HB]))
          go_wp2_with fail
          go_ret
          obtain ⟨rj, fj, sj, huj⟩ := unhide HJ
          obtain ⟨r5, f5, s5⟩ := unhide H5
          rw [List.set_set] at r5
          have hu : unt m.s x.t want i = j := by rw [huj, unt_step m.s x.t want hlt, if_pos (unhide HB)]
          exact ⟨some b5, (i : Int), (j : Int), (by rw [hu]; rfl), r5, (fj.trans (Fr.later ((Below.refl _ _).drew))).trans f5, s5, strW_mid hu⟩
        · have HB := hide hB
          have hw : wrap64 ((j : Int) + 1) = (j : Int) + 1 := IntWalk.wrap64_in _ (by have := (unhide HH).2.2.2; omega)
          clear hB
          go_wp2_with fail
          go_region_held3 (fun w' => w'.cell? ⟨gn, nd * 10 + 9, none⟩ = some (.int .i64 (j : Int)) ∧ w'.cell? ⟨g, 0, none⟩ = some (.string m.s)) (go_keep) (first | (go_at_call 44; refine (unhide HC).mono ?_; rintro e w5 ⟨b5, rfl, r5, f5, s5⟩; have k9 : w5.cell? ⟨gn, nd * 10 + 9, none⟩ = some (.int .i64 (j : Int)) := r5.nodes.cell ndV_len (by rw [List.set_set, List.length_set]; exact (unhide HH).1) (by rw [List.set_set]; exact List.getElem?_set_self hnl) (k := 9) rfl; have z9 : w5.frozen? ⟨gn, nd * 10 + 9, none⟩ = false := r5.nodes.frozen (unhide HH).1 _; have c0 := r5.c0; have H5 := hide (And.intro r5 (And.intro f5 s5)); clear r5 f5 s5; rw [unhide HB]))
          go_wp2_with fail
          go_roundw
          case rel =>
            obtain ⟨rj, fj, sj, huj⟩ := unhide HJ
            obtain ⟨r5, f5, s5⟩ := unhide H5
            rw [List.set_set] at r5
            have r6 := RepNset (y := { x with st := some b5, fr := (i : Int), to := ((j + 1 : Nat) : Int) }) (k := 9) r5 (unhide HH).1 (List.getElem?_set_self hnl) (by decide) (v := .int .i64 ((j : Int) + 1)) rfl
            rw [List.set_set] at r6
            have f6 : Fr g m m w5 (w5.setCell ⟨gn, nd * 10 + 9, none⟩ (.int .i64 ((j : Int) + 1))) := FrNset (unhide HH).2.1 _ _
            refine ⟨some b5, j + 1, r6, ((fj.trans (Fr.later ((Below.refl _ _).drew))).trans f5).trans f6, fun b hb => (SetAt.fr s5 r5 f6) b hb, by omega, by omega, ?_⟩
            rw [huj, unt_step m.s x.t want hlt, if_neg (by rw [unhide HB]; cases want <;> simp)]
          case measure =>
            have h6 : intAt gn (nd * 10 + 9) (w5.setCell ⟨gn, nd * 10 + 9, none⟩ (.int .i64 ((j : Int) + 1))) = j + 1 := by unfold intAt; rw [World.cell?_setCell_same _ _ _ k9]; exact Int.toNat_natCast (j + 1)
            rw [h6, unhide HIA]
            omega
      · obtain rfl : j = m.s.size := by omega
        clear rj fj sj huj hxj hnvj hia
        go_wp2_with fail
        go_quiet (fail)
        go_wp2_with fail
        go_ret
        obtain ⟨rj, fj, sj, huj⟩ := unhide HJ
        have hu : unt m.s x.t want i = m.s.size := by rw [huj, unt_end m.s x.t want (Nat.le_refl _)]
        have hbn : Below wr.heap.size wr (wr.drewN nq) := below_drewN (Below.refl _ _) nq
        exact ⟨st, (i : Int), (m.s.size : Int), (by rw [hu]; rfl), rj.later hbn, fj.trans (Fr.later hbn), fun b hb => row_below (sj b hb) hbn, strW_mid hu⟩
theorem until_node {w : World} {B g gn cap nd i : Nat} {m : MS} {N : List Nd} {O : List Int} {W : List Wr} {C : List Cr} {G S : List Gft} {x : Nd} {want : Bool} (h : Rep w B g m N O W C G S) (hnv : m.nv = .slice (some ⟨gn, 0, none⟩) N.length cap) (hx : N[nd]? = some x) (hset : SetAt w x) (hstr : StrW m.s x want) (ht : x.t.size ≤ 65536) (hs : m.s.size ≤ 65536) (hi : i ≤ m.s.size) :
    Calls Tryd.prog 45 #[.pointer (some ⟨g, 0, none⟩), .pointer (some ⟨gn, nd * 10, none⟩), .bool want, .int .i64 (i : Int)] w (UntPost w B g m N O W C G S nd x want i) := by
  by_cases h1 : x.fr ≤ (i : Int) ∧ (i : Int) ≤ x.to
  · exact until_old h hnv hx hset hstr h1.1 h1.2
  · exact until_new h hnv hx hset ht hs hi (by omega)
end Go.Proofs.YtkggmodabpjobaaDoor
