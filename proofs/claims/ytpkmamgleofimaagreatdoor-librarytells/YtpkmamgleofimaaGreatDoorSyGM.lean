/- The reader of lines: one argument too many; rows of expressions. The reader of lines: what is handed to a function. -/
import Derived.Test.YtpkmamgleofimaaGreatDoorSyEM
namespace Go.Proofs.YtpkmamgleofimaaGreatDoor
open Go.RowKit

theorem erO_err {α : Type} {R : Sy α} {x e : Int × Nat} (h : R = .error e) : erO R x = e := by subst h; rfl
theorem erO_ok {α : Type} {R : Sy α} {x : Int × Nat} {a : α × List Tk} (h : R = .ok a) : erO R x = x := by subst h; rfl
set_option maxRecDepth 100000 in
set_option maxHeartbeats 4000000 in
theorem stoo_any {C : SyC} {l : List Tk} {o : Nat} (w : World) (hR : Syr C w l o) (hE : SyEnv C w) : Calls Tryz.prog 146 #[.pointer (some ⟨C.z, 0, none⟩)] w fun e w' => e = thr (tmE C.E l).1 (tmE C.E l).2 ∧ But C.z w w' := by
  have HA := hide (stoken_any w hR)
  have HR := hide hR
  have HE := hide hE
  have HS := hide (fun w h => sstop_any (C := C) (l := l) (o := o) w h)
  have HT := hide (fun w => sthrow_any 5 (ahd C.E 0 l).a w)
  have HN := hide (fun w h => sname_any (C := C) (l := l) (o := o) w h)
  have HU := hide (fun q w h k => snumber_any (C := C) (l := l) (o := o) w h k q)
  obtain ⟨RR, hRR⟩ : ∃ RR, RR = tmE C.E l := ⟨_, rfl⟩
  rw [← hRR]
  unfold tmE at hRR
  have HQ := hide hRR
  have HIS := hide (fun s w => isSign_any (ahd C.E 0 l) s w)
  clear hR hE hRR
  generalize nmS C.E l = RN at *
  generalize nuS C.E l = RU at *
  generalize ahd C.E 0 l = t at *
  have HTV : Hid (tokV t = .agg #[.int .i64 (t.k : Int), .string t.t, .int .i64 (t.a : Int)]) := hide (rfl)
  unfold tokV at HA HIS
  have hAl := fun (W : World) => (Below.refl W.heap.size W).alloc (Nat.le_refl _) (.cells #[.int .i64 (t.k : Int), .string t.t, .int .i64 (t.a : Int)] 78)
  go_enter Tryz.func146, Tryz.ntmps146
  go_wp2_with fail
  refine (unhide HA).mono ?_
  rintro e w2 ⟨rfl, hb2⟩
  have HB2 := hide (bnext hb2 (hAl w2))
  have HX2 : Hid ((w2.alloc (.cells #[.int .i64 (t.k : Int), .string t.t, .int .i64 (t.a : Int)] 78)).heap[w2.heap.size]? = some (.cells #[.int .i64 (t.k : Int), .string t.t, .int .i64 (t.a : Int)] 78 (0, 0))) := hide (at_new rfl)
  have HZ2 : Hid (w2.heap.size ≠ C.z) := hide (by have := (unhide HR).lt; have := hb2.size; omega)
  clear hb2 HA
  by_cases h1 : t.k = 1
  · have q1 : ((t.k : Int) == 1) = true := bt
    have HQ1 : Hid (RR = erO RN (5, t.a)) := hide (by rw [unhide HQ, if_pos h1])
    clear h1 HQ HS HU HIS
    go_wp2_with fail
    refine (unhide HN _ ((unhide HR).below (unhide HB2))).mono ?_
    intro e w3 hp
    cases hq : RN with
    | error x =>
      obtain ⟨er, i⟩ := x
      obtain ⟨hb3, rfl⟩ := sof_err hp hq
      have HB3 := hide ((But.of_below (unhide HB2)).trans hb3)
      have HQ2 : Hid (RR = (er, i)) := hide (by rw [unhide HQ1, erO_err hq])
      clear hp hb3 hq
      unfold thr
      go_wp2_with fail
      exact ⟨rfl, by rw [unhide HQ2]; rfl, unhide HB3⟩
    | ok x =>
      obtain ⟨p, r⟩ := x
      obtain ⟨hb3, rfl, -⟩ := sof_ok hp hq
      have HB3 := hide ((But.of_below (unhide HB2)).trans hb3)
      have HQ2 : Hid (RR = (5, t.a)) := hide (by rw [unhide HQ1, erO_ok hq])
      have hx3 := hb3.row (unhide HZ2) (unhide HX2)
      have d2 : w3.cell? ⟨w2.heap.size, 2, none⟩ = some (.int .i64 (t.a : Int)) := cr hx3
      clear hp hb3 hq hx3
      go_wp2_with fail
      refine (unhide HT _).mono ?_
      rintro e w4 ⟨rfl, rfl⟩
      unfold thr
      go_wp2_with fail
      exact ⟨rfl, by rw [unhide HQ2]; rfl, unhide HB3⟩
  · have q1 : ((t.k : Int) == 1) = false := bn
    have HQ1 : Hid (RR = _) := hide (by rw [unhide HQ, if_neg h1])
    by_cases h2 : t.k = 2
    · have q2 : ((t.k : Int) == 2) = true := bt
      have HQ3 : Hid (RR = erO RU (5, t.a)) := hide (by rw [unhide HQ1, if_pos h2])
      have HU2 := hide (unhide HU h2)
      clear h1 h2 HQ HQ1 HS HN HIS HU
      go_wp2_with fail
      refine (unhide HU2 _ ((unhide HR).below (unhide HB2)) ((unhide HE).below (unhide HB2))).mono ?_
      intro e w3 hp
      cases hq : RU with
      | error x =>
        obtain ⟨er, i⟩ := x
        obtain ⟨hb3, rfl⟩ := sof_err hp hq
        have HB3 := hide ((But.of_below (unhide HB2)).trans hb3)
        have HQ2 : Hid (RR = (er, i)) := hide (by rw [unhide HQ3, erO_err hq])
        clear hp hb3 hq
        unfold thr
        go_wp2_with fail
        exact ⟨rfl, by rw [unhide HQ2]; rfl, unhide HB3⟩
      | ok x =>
        obtain ⟨p, r⟩ := x
        obtain ⟨hb3, rfl, -⟩ := sof_ok hp hq
        have HB3 := hide ((But.of_below (unhide HB2)).trans hb3)
        have HQ2 : Hid (RR = (5, t.a)) := hide (by rw [unhide HQ3, erO_ok hq])
        have hx3 := hb3.row (unhide HZ2) (unhide HX2)
        have d2 : w3.cell? ⟨w2.heap.size, 2, none⟩ = some (.int .i64 (t.a : Int)) := cr hx3
        clear hp hb3 hq hx3
        go_wp2_with fail
        refine (unhide HT _).mono ?_
        rintro e w4 ⟨rfl, rfl⟩
        unfold thr
        go_wp2_with fail
        exact ⟨rfl, by rw [unhide HQ2]; rfl, unhide HB3⟩
    · have q2 : ((t.k : Int) == 2) = false := bn
      have HQ3 : Hid (RR = _) := hide (by rw [unhide HQ1, if_neg h2])
      by_cases h3 : t.k = 3
      · have q3 : ((t.k : Int) == 3) = true := bt
        have HQ2 : Hid (RR = (5, t.a)) := hide (by rw [unhide HQ3, if_pos h3])
        clear h1 h2 h3 HQ HQ1 HQ3 HS HN HIS HU
        go_wp2_with fail
        refine (unhide HT _).mono ?_
        rintro e w4 ⟨rfl, rfl⟩
        unfold thr
        go_wp2_with fail
        exact ⟨rfl, by rw [unhide HQ2]; rfl, But.of_below (unhide HB2)⟩
      · have q3 : ((t.k : Int) == 3) = false := bn
        have HQ4 : Hid (RR = _) := hide (by rw [unhide HQ3, if_neg h3])
        clear h1 h2 h3 HQ HQ1 HQ3 HN HU
        cases h45 : isS t (sgn 45)
        · cases h36 : isS t (sgn 36)
          · cases h40 : isS t (sgn 40)
            · have HQ2 : Hid (RR = (2, t.a)) := hide (by rw [unhide HQ4, if_neg (by rw [h45, h36, h40]; decide)])
              clear HQ4
              have HI0 := hide (fun w => unhide HIS ⟨#[45]⟩ w)
              rw [show isS t ⟨#[45]⟩ = false from h45] at HI0
              go_wp2_with fail
              refine (unhide HI0 _).mono ?_
              rintro e w3 ⟨rfl, hb3⟩
              have HB3 := hide (bnext (unhide HB2) hb3)
              have HX3 := hide (row_below (unhide HX2) hb3)
              have d00 : w3.cell? ⟨w2.heap.size, 0, none⟩ = some (.int .i64 (t.k : Int)) := cr (unhide HX3)
              have d10 : w3.cell? ⟨w2.heap.size, 1, none⟩ = some (.string t.t) := cr (unhide HX3)
              have d20 : w3.cell? ⟨w2.heap.size, 2, none⟩ = some (.int .i64 (t.a : Int)) := cr (unhide HX3)
              clear hb3 HI0
              have HI1 := hide (fun w => unhide HIS ⟨#[36]⟩ w)
              rw [show isS t ⟨#[36]⟩ = false from h36] at HI1
              go_wp2_with fail
              refine (unhide HI1 _).mono ?_
              rintro e w4 ⟨rfl, hb4⟩
              have HB4 := hide (bnext (unhide HB3) hb4)
              have HX4 := hide (row_below (unhide HX3) hb4)
              have d01 : w4.cell? ⟨w2.heap.size, 0, none⟩ = some (.int .i64 (t.k : Int)) := cr (unhide HX4)
              have d11 : w4.cell? ⟨w2.heap.size, 1, none⟩ = some (.string t.t) := cr (unhide HX4)
              have d21 : w4.cell? ⟨w2.heap.size, 2, none⟩ = some (.int .i64 (t.a : Int)) := cr (unhide HX4)
              clear hb4 HI1
              have HI2 := hide (fun w => unhide HIS ⟨#[40]⟩ w)
              rw [show isS t ⟨#[40]⟩ = false from h40] at HI2
              go_wp2_with fail
              refine (unhide HI2 _).mono ?_
              rintro e w5 ⟨rfl, hb5⟩
              have HB5 := hide (bnext (unhide HB4) hb5)
              have HX5 := hide (row_below (unhide HX4) hb5)
              have d02 : w5.cell? ⟨w2.heap.size, 0, none⟩ = some (.int .i64 (t.k : Int)) := cr (unhide HX5)
              have d12 : w5.cell? ⟨w2.heap.size, 1, none⟩ = some (.string t.t) := cr (unhide HX5)
              have d22 : w5.cell? ⟨w2.heap.size, 2, none⟩ = some (.int .i64 (t.a : Int)) := cr (unhide HX5)
              clear hb5 HI2
              go_wp2_with fail
              refine (unhide HS _ ((unhide HR).below (unhide HB5))).mono ?_
              rintro e w9 ⟨rfl, hb9⟩
              have HB9 := hide (bnext (unhide HB5) hb9)
              clear hb9
              unfold thr
              go_wp2_with fail
              exact ⟨rfl, by rw [unhide HQ2]; rfl, But.of_below (unhide HB9)⟩
            · have HQ2 : Hid (RR = (5, t.a)) := hide (by rw [unhide HQ4, if_pos (.inr (.inr h40))])
              clear HQ4
              have HI0 := hide (fun w => unhide HIS ⟨#[45]⟩ w)
              rw [show isS t ⟨#[45]⟩ = false from h45] at HI0
              go_wp2_with fail
              refine (unhide HI0 _).mono ?_
              rintro e w3 ⟨rfl, hb3⟩
              have HB3 := hide (bnext (unhide HB2) hb3)
              have HX3 := hide (row_below (unhide HX2) hb3)
              have d00 : w3.cell? ⟨w2.heap.size, 0, none⟩ = some (.int .i64 (t.k : Int)) := cr (unhide HX3)
              have d10 : w3.cell? ⟨w2.heap.size, 1, none⟩ = some (.string t.t) := cr (unhide HX3)
              have d20 : w3.cell? ⟨w2.heap.size, 2, none⟩ = some (.int .i64 (t.a : Int)) := cr (unhide HX3)
              clear hb3 HI0
              have HI1 := hide (fun w => unhide HIS ⟨#[36]⟩ w)
              rw [show isS t ⟨#[36]⟩ = false from h36] at HI1
              go_wp2_with fail
              refine (unhide HI1 _).mono ?_
              rintro e w4 ⟨rfl, hb4⟩
              have HB4 := hide (bnext (unhide HB3) hb4)
              have HX4 := hide (row_below (unhide HX3) hb4)
              have d01 : w4.cell? ⟨w2.heap.size, 0, none⟩ = some (.int .i64 (t.k : Int)) := cr (unhide HX4)
              have d11 : w4.cell? ⟨w2.heap.size, 1, none⟩ = some (.string t.t) := cr (unhide HX4)
              have d21 : w4.cell? ⟨w2.heap.size, 2, none⟩ = some (.int .i64 (t.a : Int)) := cr (unhide HX4)
              clear hb4 HI1
              have HI2 := hide (fun w => unhide HIS ⟨#[40]⟩ w)
              rw [show isS t ⟨#[40]⟩ = true from h40] at HI2
              go_wp2_with fail
              refine (unhide HI2 _).mono ?_
              rintro e w5 ⟨rfl, hb5⟩
              have HB5 := hide (bnext (unhide HB4) hb5)
              have HX5 := hide (row_below (unhide HX4) hb5)
              have d02 : w5.cell? ⟨w2.heap.size, 0, none⟩ = some (.int .i64 (t.k : Int)) := cr (unhide HX5)
              have d12 : w5.cell? ⟨w2.heap.size, 1, none⟩ = some (.string t.t) := cr (unhide HX5)
              have d22 : w5.cell? ⟨w2.heap.size, 2, none⟩ = some (.int .i64 (t.a : Int)) := cr (unhide HX5)
              clear hb5 HI2
              go_wp2_with fail
              refine (unhide HT _).mono ?_
              rintro e w9 ⟨rfl, rfl⟩
              unfold thr
              go_wp2_with fail
              exact ⟨rfl, by rw [unhide HQ2]; rfl, But.of_below (unhide HB5)⟩
          · have HQ2 : Hid (RR = (5, t.a)) := hide (by rw [unhide HQ4, if_pos (.inr (.inl h36))])
            clear HQ4
            have HI0 := hide (fun w => unhide HIS ⟨#[45]⟩ w)
            rw [show isS t ⟨#[45]⟩ = false from h45] at HI0
            go_wp2_with fail
            refine (unhide HI0 _).mono ?_
            rintro e w3 ⟨rfl, hb3⟩
            have HB3 := hide (bnext (unhide HB2) hb3)
            have HX3 := hide (row_below (unhide HX2) hb3)
            have d00 : w3.cell? ⟨w2.heap.size, 0, none⟩ = some (.int .i64 (t.k : Int)) := cr (unhide HX3)
            have d10 : w3.cell? ⟨w2.heap.size, 1, none⟩ = some (.string t.t) := cr (unhide HX3)
            have d20 : w3.cell? ⟨w2.heap.size, 2, none⟩ = some (.int .i64 (t.a : Int)) := cr (unhide HX3)
            clear hb3 HI0
            have HI1 := hide (fun w => unhide HIS ⟨#[36]⟩ w)
            rw [show isS t ⟨#[36]⟩ = true from h36] at HI1
            go_wp2_with fail
            refine (unhide HI1 _).mono ?_
            rintro e w4 ⟨rfl, hb4⟩
            have HB4 := hide (bnext (unhide HB3) hb4)
            have HX4 := hide (row_below (unhide HX3) hb4)
            have d01 : w4.cell? ⟨w2.heap.size, 0, none⟩ = some (.int .i64 (t.k : Int)) := cr (unhide HX4)
            have d11 : w4.cell? ⟨w2.heap.size, 1, none⟩ = some (.string t.t) := cr (unhide HX4)
            have d21 : w4.cell? ⟨w2.heap.size, 2, none⟩ = some (.int .i64 (t.a : Int)) := cr (unhide HX4)
            clear hb4 HI1
            go_wp2_with fail
            refine (unhide HT _).mono ?_
            rintro e w9 ⟨rfl, rfl⟩
            unfold thr
            go_wp2_with fail
            exact ⟨rfl, by rw [unhide HQ2]; rfl, But.of_below (unhide HB4)⟩
        · have HQ2 : Hid (RR = (5, t.a)) := hide (by rw [unhide HQ4, if_pos (.inl h45)])
          clear HQ4
          have HI0 := hide (fun w => unhide HIS ⟨#[45]⟩ w)
          rw [show isS t ⟨#[45]⟩ = true from h45] at HI0
          go_wp2_with fail
          refine (unhide HI0 _).mono ?_
          rintro e w3 ⟨rfl, hb3⟩
          have HB3 := hide (bnext (unhide HB2) hb3)
          have HX3 := hide (row_below (unhide HX2) hb3)
          have d00 : w3.cell? ⟨w2.heap.size, 0, none⟩ = some (.int .i64 (t.k : Int)) := cr (unhide HX3)
          have d10 : w3.cell? ⟨w2.heap.size, 1, none⟩ = some (.string t.t) := cr (unhide HX3)
          have d20 : w3.cell? ⟨w2.heap.size, 2, none⟩ = some (.int .i64 (t.a : Int)) := cr (unhide HX3)
          clear hb3 HI0
          go_wp2_with fail
          refine (unhide HT _).mono ?_
          rintro e w9 ⟨rfl, rfl⟩
          unfold thr
          go_wp2_with fail
          exact ⟨rfl, by rw [unhide HQ2]; rfl, But.of_below (unhide HB3)⟩
end Go.Proofs.YtpkmamgleofimaaGreatDoor

namespace Go.Proofs.YtpkmamgleofimaaGreatDoor
open Go.RowKit

theorem info_ex : (Tryz.prog.info? 42).map (fun i => (i.zero, i.size, i.bytes)) = some (some (.agg zeroP), 5, 72) := by kernel_rfl
theorem new_fiveX {w : World} {U : PT} : ∀ k u, (five U)[k]? = some u → (w.alloc (.cells (patO U) 42)).cell? ⟨w.heap.size, k, none⟩ = some u := fun k u h => by
  rw [cell_of_row _ _ _ _ _ _ (at_new rfl), ← Array.getElem?_toList]
  exact h
structure KidsX (B : Nat) (w : World) (v : Value) (L : List PT) (l : List PT) : Prop where
  row : Row w B 42 5 five v L
  can : L.map PT.can = l
  lies : ∀ x ∈ L, LiesX B v.ownBlock w x
theorem KidsX.but {B z : Nat} {w w' : World} {v : Value} {L l : List PT} (h : KidsX B w v L l) (hb : But z w w') (hz : z < B) : KidsX B w' v L l :=
  ⟨h.row.same fun k hk => hb.block k (h.row.low hk).2 (by have := (h.row.low hk).1; omega), h.can, fun x hx => (h.lies x hx).but hb hz⟩
theorem KidsX.below {B : Nat} {w w' : World} {v : Value} {L l : List PT} (h : KidsX B w v L l) (hb : Below w.heap.size w w') : KidsX B w' v L l := ⟨h.row.later hb, h.can, fun x hx => (h.lies x hx).below hb⟩
theorem KidsX.nil {B : Nat} {w : World} : KidsX B w (.slice none 0 0) [] [] := ⟨World.ownsRow_nil _ _ _ _, rfl, fun x hx => by simp at hx⟩
theorem KidsX.snoc {B : Nat} {w w4 w6 : World} {v v' : Value} {L l : List PT} {U : PT} (h : KidsX B w4 v L l) (hw : B ≤ w.heap.size) (hv : ∀ k, v.ownBlock = some k → k < w.heap.size) (hL : Lies w.heap.size w4 U)
    (hrow : Row w6 B 42 5 five v' (L ++ [U])) (hg : (w4.alloc (.cells (patO U) 42)).grownBy w6 v.ownBlock) (hn : v'.ownBlock = v.ownBlock ∨ v'.ownBlock = some (w4.alloc (.cells (patO U) 42)).heap.size) : KidsX B w6 v' (L ++ [U]) (l ++ [U.can]) := by
  have hb5 : Below w4.heap.size w4 (w4.alloc (.cells (patO U) 42)) := ba _
  refine ⟨hrow, by rw [List.map_append, h.can]; rfl, fun x hx => ?_⟩
  rcases List.mem_append.1 hx with hx | hx
  · exact ((h.lies x hx).below hb5).grown hg hn
  · rw [List.mem_singleton] at hx
    subst hx
    exact (((hL.except hw fun i hi => hv i hi)).below hb5).grown hg hn
theorem row_fiveX {w : World} {B g cap i : Nat} {v : Value} {l : List PT} {x : PT} (h : Row w B 42 5 five v l) (hv : v = .slice (some ⟨g, 0, none⟩) l.length cap) (hx : l[i]? = some x) :
    w.cell? ⟨g, i * 5, none⟩ = some (.int .i64 x.k) ∧ w.cell? ⟨g, i * 5 + 1, none⟩ = some (.string x.t) ∧ w.cell? ⟨g, i * 5 + 2, none⟩ = some (.int .i64 x.n) ∧ w.cell? ⟨g, i * 5 + 3, none⟩ = some (.string x.nm) ∧ w.cell? ⟨g, i * 5 + 4, none⟩ = some (.slice x.xa x.len x.cap) :=
  ⟨h.cell five_len hv hx (k := 0) rfl, h.cell five_len hv hx (k := 1) rfl, h.cell five_len hv hx (k := 2) rfl, h.cell five_len hv hx (k := 3) rfl, h.cell five_len hv hx (k := 4) rfl⟩
theorem rowX_in {w : World} {B g cap : Nat} {L : List PT} {nm : ByteArray} (h : Row w B 42 5 five (.slice (some ⟨g, 0, none⟩) L.length cap) L) (hL : ∀ x ∈ L, x.In w) {k : Int} (hk : 0 ≤ k ∧ k ≤ 100) (hn : nm.size ≤ 65536) : (rowN k nm g cap L).In w := by
  have hf := h.max
  have hle : L.length ≤ cap := by
    obtain ⟨a, c, e, -, hc⟩ := h.len
    injection e with _ _ e3
    omega
  refine ⟨by constructor <;> omega, by unfold maxLen; decide, by decide, by unfold maxLen; omega, hf, hle, fun _ => rfl, fun i => ?_⟩
  obtain ⟨x0, x1, x2, x3, x4⟩ := row_fiveX h rfl (i := i.val) (x := L[i]) (List.getElem?_eq_getElem i.isLt)
  simp only [Nat.zero_add]
  exact ⟨⟨x0, x1, x2, x3, x4⟩, hL _ (List.getElem_mem i.isLt)⟩
theorem kids_node {B : Nat} {w : World} {v : Value} {L l : List PT} {k : Int} {nm : ByteArray} (h : KidsX B w v L l) (hk : 0 ≤ k ∧ k ≤ 100) (hn : nm.size ≤ 65536) : ∃ U : PT, (pv U = .agg #[.int .i64 k, .string ⟨#[]⟩, .int .i64 0, .string nm, v] ∧ patO U = #[.int .i64 k, .string ⟨#[]⟩, .int .i64 0, .string nm, v]) ∧ U.can = mkP k ByteArray.empty 0 nm l ∧ Lies B w U := by
  rcases h.row.2 with ⟨rfl, h0⟩ | ⟨g, cap, cur, rfl, hb, hg, hc, hm, hs, ht⟩
  · obtain rfl := List.eq_nil_of_length_eq_zero h0
    have hl : l = [] := by rw [← h.can]; rfl
    subst hl
    exact ⟨mkP k ⟨#[]⟩ 0 nm [], ⟨rfl, rfl⟩, leaf_can _ _ _ _, leaf_lies hk ⟨by decide, by decide⟩ (by decide) hn⟩
  · refine ⟨rowN k nm g cap L, ⟨rfl, rfl⟩, by rw [rowN_can, h.can]; rfl, fun X hX => ?_⟩
    have hlow := h.row.low (k := g) rfl
    have hr : Row X B 42 5 five (.slice (some ⟨g, 0, none⟩) L.length cap) L := h.row.same fun k hk => by
      have : k = g := by simpa [Value.ownBlock] using hk.symm
      subst this
      exact hX k hlow.1 hlow.2
    exact rowX_in hr (fun x hx => (h.lies x hx).lies X hX) hk hn
def argsL (B : Nat) (l : List PT) (e : Ending) (w : World) : Prop := ∃ v L, e = .returned v ∧ KidsX B w v L l
section
variable {E f : Nat} {p : Option Lv} {o : List PT} {l r q : List Tk} {x : PT}
theorem agF_many (ho : o.length = 8) : agF E p (f + 1) o l = .error (tmE E l) := by rw [agF, if_pos ho]; rfl
theorem agF_err {e : Int × Nat} (ho : o.length ≠ 8) (h : xpO E p l = .error e) : agF E p (f + 1) o l = .error e := by rw [agF, if_neg ho, h]; rfl
theorem agF_more (ho : o.length ≠ 8) (h : xpO E p l = .ok (x, r)) (hc : isS (ahd E 0 r) (sgn 44) = true) : agF E p (f + 1) o l = agF E p f (o ++ [x]) r.tail := by rw [agF, if_neg ho, h, sbd_ok, if_pos hc]
theorem agF_done (ho : o.length ≠ 8) (h : xpO E p l = .ok (x, r)) (hc : isS (ahd E 0 r) (sgn 44) = false) : agF E p (f + 1) o l = sbd (ndS E (sgn 41) r) fun _ q => .ok (o ++ [x], q) := by rw [agF, if_neg ho, h, sbd_ok, if_neg (by rw [hc]; decide)]
end
set_option maxRecDepth 100000 in
set_option maxHeartbeats 8000000 in
theorem sargs_any {d : Nat} (HX : XSays 95 d (fun E => xpO E (lvO E d))) (C : SyC) (l : List Tk) (w : World) (hR : Syr C w l (400 - d)) (hE : SyEnv C w) :
    Calls Tryz.prog 140 #[.pointer (some ⟨C.z, 0, none⟩)] w fun e w' => SyPost (argsL w.heap.size) C (400 - d) w (agS C.E (lvO C.E d) l) e w' := by
  have HR0 := hide hR
  have HE := hide hE
  have HXC : Hid (∀ l w, Syr C w l (400 - d) → SyEnv C w → Calls Tryz.prog 95 #[.pointer (some ⟨C.z, 0, none⟩)] w fun e w' => SyPost (patL w.heap.size) C (400 - d) w (xpO C.E (lvO C.E d) l) e w') := hide (fun l w h k => HX C l w h k)
  obtain ⟨RR, hRR⟩ : ∃ RR, RR = agS C.E (lvO C.E d) l := ⟨_, rfl⟩
  rw [← hRR]
  obtain ⟨B, hB⟩ : ∃ B, B = w.heap.size := ⟨_, rfl⟩
  rw [← hB]
  have HB0 := hide hB
  have hzB : C.z < B := by rw [hB]; exact hR.lt
  generalize lvO C.E d = p at *
  generalize 400 - d = od at *
  cases hs : isS (ahd C.E 0 l) (sgn 41)
  · have HQ0 : Hid (RR = agF C.E p 9 [] l) := hide (by rw [hRR]; unfold agS; rw [hs, if_neg (by decide)])
    have HT0 := hide (stake_no (sgn 41) w hR hs)
    unfold sgn at HT0
    clear hR hE hRR hB hs HX
    go_enter Tryz.func140, Tryz.ntmps140
    go_wp2_with fail
    refine (unhide HT0).mono ?_
    rintro e w1 ⟨rfl, hb1⟩
    have HI0 : Hid (Syr C w1 l od ∧ But C.z w w1) := hide (⟨(unhide HR0).below hb1, But.of_below hb1⟩)
    clear hb1 HT0
    go_wp2_with fail
    go_loopw [3] (fun v wr => ∃ (o L : List PT) (l' : List Tk) (a : Option Addr) (cap : Nat), o.length ≤ 8 ∧ L.length = o.length ∧ v = .slice a o.length cap ∧ Hid (KidsX B wr (.slice a o.length cap) L o ∧ Syr C wr l' od ∧ But C.z w wr ∧ RR = agF C.E p (9 - o.length) o l')) (fun v _ => 9 - lenV v)
    case atStart => exact ⟨[], [], l, none, 0, by simp, rfl, rfl, KidsX.nil, (unhide HI0).1, (unhide HI0).2, unhide HQ0⟩
    case round =>
      obtain ⟨o, L, l', a, cap, ho, hLo, rfl, HI⟩ := hrel
      obtain ⟨f, hf⟩ : ∃ f, 9 - o.length = f + 1 := ⟨8 - o.length, by omega⟩
      have HEQ : Hid (RR = agF C.E p (f + 1) o l') := hide (by rw [← hf]; exact (unhide HI).2.2.2)
      have HF := hide hf
      have HLO := hide hLo
      have HEN := hide ((unhide HE).but (unhide HI).2.2.1)
      clear hf hLo HI0 HQ0
      by_cases h8 : o.length = 8
      · have HE2 : Hid (RR = .error ((tmE C.E l').1, (tmE C.E l').2)) := hide (by rw [unhide HEQ]; exact agF_many h8)
        have q8 : ((o.length : Int) == 8) = true := bt
        have HTM := hide (stoo_any wr (unhide HI).2.1 (unhide HEN))
        clear h8 HEQ
        generalize (tmE C.E l').1 = e1 at *
        generalize (tmE C.E l').2 = e2 at *
        go_wp2_with fail
        refine (unhide HTM).mono ?_
        rintro e w2 ⟨rfl, hb2⟩
        have HB2 := hide ((unhide HI).2.2.1.trans hb2)
        clear hb2
        unfold thr
        go_wp2_with fail
        exact ⟨rfl, spost_err (unhide HE2) (unhide HB2) rfl⟩
      · have q8 : ((o.length : Int) == 8) = false := bn
        have H8 := hide h8
        have HX1 := hide (unhide HXC l' wr (unhide HI).2.1 (unhide HEN))
        clear h8
        go_wp2_with fail
        refine (unhide HX1).mono ?_
        intro e w3 hp
        cases hq : xpO C.E p l' with
        | error x =>
          obtain ⟨er, i⟩ := x
          obtain ⟨hb3, rfl⟩ := sof_err hp hq
          have HB3 := hide ((unhide HI).2.2.1.trans hb3)
          have HE2 : Hid (RR = .error (er, i)) := hide (by rw [unhide HEQ]; exact agF_err (unhide H8) hq)
          clear hp hb3 hq
          unfold thr
          go_wp2_with fail
          exact ⟨rfl, spost_err (unhide HE2) (unhide HB3) rfl⟩
        | ok x =>
          obtain ⟨x, r⟩ := x
          obtain ⟨hb3, ⟨U, rfl, hcan, hlie⟩, hR3⟩ := sof_ok hp hq
          have HQX := hide hq
          have HK3 := hide ((unhide HI).1.but hb3 hzB)
          have hwB : B ≤ wr.heap.size := by rw [unhide HB0]; exact (unhide HI).2.2.1.size
          have hBw : B ≤ w3.heap.size := by have := hb3.size; omega
          have hal : Below w3.heap.size w3 (w3.alloc (.cells (patO U) 42)) := ba _
          have HRR := hide ((unhide HK3).row.later hal)
          have HSZ : Hid (B ≤ (w3.alloc (.cells (patO U) 42)).heap.size) := hide (by rw [World.size_alloc]; omega)
          have HCC := hide (new_fiveX (w := w3) (U := U))
          have HAF : Hid (∀ v6 w6, Row w6 B 42 5 five v6 (L ++ [U]) → (w3.alloc (.cells (patO U) 42)).grownBy w6 (Value.slice a o.length cap).ownBlock → (v6.ownBlock = (Value.slice a o.length cap).ownBlock ∨ v6.ownBlock = some (w3.alloc (.cells (patO U) 42)).heap.size) → KidsX B w6 v6 (L ++ [U]) (o ++ [x]) ∧ Syr C w6 r od ∧ But C.z w w6) := hide (fun v6 w6 hrow hg hn => by
            have hold := sgrown_old (unhide HRR) (unhide HSZ) hg
            refine ⟨?_, (hR3.below hal).old (unhide HR0) (unhide HB0).symm hold, but_old (((unhide HI).2.2.1.trans hb3).trans (But.of_below hal)) (unhide HB0).symm hg.size hold ⟨hg.os, hg.tape, hg.output⟩⟩
            have := (unhide HK3).snoc hwB (fun k hk => ((unhide HI).1.row.low hk).2) hlie hrow hg hn
            rw [hcan] at this
            exact this)
          have hol : L.length ≤ 1000000 := by rw [unhide HLO]; omega
          have HLR : Hid (L.length = o.length) := hide (unhide HLO)
          clear hp hb3 hq hcan hlie hR3 hal HX1 hBw hwB
          unfold pv
          unfold patO at HRR HSZ HCC HAF
          have HTK := hide (fun w h hs => stake_yes (C := C) (l := r) (o := od) (sgn 44) w h hs)
          have HTN := hide (fun w h hs => stake_no (C := C) (l := r) (o := od) (sgn 44) w h hs)
          have HND := hide (fun w h => sneed_any (C := C) (l := r) (o := od) (sgn 41) w h)
          unfold sgn at HTK HTN
          go_wp2_with (first
            | (at_builtin; refine wpList_row Tryz.underlying40 info_ex rfl (by decide) (by decide) five_len five_one rfl _ _ rfl (unhide HRR) (unhide HSZ) U w3.heap.size 1 rfl rfl (unhide HCC) hol ?_; intro v6 w6 hrow hgrow hown; have HS6 := hide (unhide HAF v6 w6 hrow hgrow hown); have HVL := hide hrow.len; clear hgrow hown hrow HAF HCC)
            | fail)
          obtain ⟨a6, cap6, hv6, -, -⟩ := unhide HVL
          have hlen : (o ++ [x]).length = o.length + 1 := by simp
          have hlenL : (L ++ [U]).length = o.length + 1 := by simp [unhide HLO]
          rw [hlenL] at hv6
          subst hv6
          cases hc : isS (ahd C.E 0 r) ⟨#[44]⟩
          · have HE2 : Hid (RR = sbd (ndS C.E (sgn 41) r) fun _ q => .ok (o ++ [x], q)) := hide (by rw [unhide HEQ]; exact agF_done (unhide H8) (unhide HQX) hc)
            refine (unhide HTN w6 (unhide HS6).2.1 hc).mono ?_
            rintro e w7 ⟨rfl, hb7⟩
            have HS7 : Hid (KidsX B w7 (.slice a6 (o.length + 1) cap6) (L ++ [U]) (o ++ [x]) ∧ Syr C w7 r od ∧ But C.z w w7) := hide (⟨(unhide HS6).1.below hb7, (unhide HS6).2.1.below hb7, (unhide HS6).2.2.trans (But.of_below hb7)⟩)
            have HN7 := hide (unhide HND w7 (unhide HS7).2.1)
            clear hb7 hc HTN HTK hlen hlenL HND HEQ HQX
            unfold sgn at HN7 HE2
            go_wp2_with fail
            refine (unhide HN7).mono ?_
            intro e w8 hp
            cases hq : ndS C.E ⟨#[41]⟩ r with
            | error y =>
              obtain ⟨er, i⟩ := y
              obtain ⟨hb8, rfl⟩ := sof_err hp hq
              have HB8 := hide ((unhide HS7).2.2.trans hb8)
              have HE3 : Hid (RR = .error (er, i)) := hide (by rw [unhide HE2, hq, sbd_err])
              clear hp hb8 hq
              unfold thr
              go_wp2_with fail
              exact ⟨rfl, spost_err (unhide HE3) (unhide HB8) rfl⟩
            | ok y =>
              obtain ⟨y, q⟩ := y
              obtain ⟨hb8, rfl, hR8⟩ := sof_ok hp hq
              have HZ : Hid (KidsX B w8 (.slice a6 (o.length + 1) cap6) (L ++ [U]) (o ++ [x]) ∧ Syr C w8 q od ∧ But C.z w w8) := hide (⟨(unhide HS7).1.but hb8 hzB, hR8, (unhide HS7).2.2.trans hb8⟩)
              have HE3 : Hid (RR = .ok (o ++ [x], q)) := hide (by rw [unhide HE2, hq, sbd_ok])
              clear hp hb8 hq hR8
              go_wp2_with fail
              go_ret
              exact spost_ok (unhide HE3) (unhide HZ).2.2 ⟨_, _, rfl, (unhide HZ).1⟩ (unhide HZ).2.1
          · have HE2 : Hid (RR = agF C.E p f (o ++ [x]) r.tail) := hide (by rw [unhide HEQ]; exact agF_more (unhide H8) (unhide HQX) hc)
            refine (unhide HTK w6 (unhide HS6).2.1 hc).mono ?_
            rintro e w7 ⟨rfl, hb7, hR7⟩
            have HZ : Hid (KidsX B w7 (.slice a6 (o.length + 1) cap6) (L ++ [U]) (o ++ [x]) ∧ Syr C w7 r.tail od ∧ But C.z w w7) := hide (⟨(unhide HS6).1.but hb7 hzB, hR7, (unhide HS6).2.2.trans hb7⟩)
            clear hb7 hR7 hc HTN HTK HND
            go_wp2_with fail
            have hF := unhide HF
            have h8 := unhide H8
            exact ⟨⟨o ++ [x], L ++ [U], r.tail, a6, cap6, by rw [hlen]; omega, by rw [hlen, hlenL], by rw [hlen], by rw [hlen]; exact (unhide HZ).1, (unhide HZ).2.1, (unhide HZ).2.2, by rw [unhide HE2, hlen, show 9 - (o.length + 1) = f by omega]⟩, by show 9 - (o.length + 1) < 9 - o.length; omega⟩
  · have HQ0 : Hid (RR = .ok ([], l.tail)) := hide (by rw [hRR]; unfold agS; rw [hs, if_pos rfl])
    have HT0 := hide (stake_yes (sgn 41) w hR hs)
    unfold sgn at HT0
    clear hR hE hRR hB hs HX
    go_enter Tryz.func140, Tryz.ntmps140
    go_wp2_with fail
    refine (unhide HT0).mono ?_
    rintro e w1 ⟨rfl, hb1, hR1⟩
    have HZ := hide (And.intro hb1 hR1)
    clear hb1 hR1 HT0
    go_wp2_with fail
    go_ret
    exact spost_ok (unhide HQ0) (unhide HZ).1 ⟨_, _, rfl, KidsX.nil⟩ (unhide HZ).2
end Go.Proofs.YtpkmamgleofimaaGreatDoor
