/- The reader of patterns: pieces one behind the other. The reader of patterns: alternatives. -/
import Derived.Test.YtpkmamgleofimaaGreatDoorRdJM
namespace Go.Proofs.YtpkmamgleofimaaGreatDoor
open Go.RowKit

theorem KidsL.snoc {B z : Nat} {w w4 w6 : World} {v v' : Value} {L l : List PT} {U : PT} (h : KidsL B w v L l) (hB : B ≤ w.heap.size) (hb : But z w w4) (hz : z < B) (hL : Lies w.heap.size w4 U)
    (hrow : Row w6 B 45 5 five v' (L ++ [U])) (hg : (w4.alloc (.cells (patO U) 45)).grownBy w6 v.ownBlock) (hn : v'.ownBlock = v.ownBlock ∨ v'.ownBlock = some (w4.alloc (.cells (patO U) 45)).heap.size) : KidsL B w6 v' (L ++ [U]) (l ++ [U.can]) := by
  have hb5 : Below w4.heap.size w4 (w4.alloc (.cells (patO U) 45)) := ba _
  refine ⟨hrow, by rw [List.map_append, h.can]; rfl, fun x hx => ?_⟩
  rcases List.mem_append.1 hx with hx | hx
  · exact (((h.lies x hx).but hb hz).below hb5).grown hg hn
  · rw [List.mem_singleton] at hx
    subst hx
    exact (((hL.except hB fun i hi => (h.row.low hi).2)).below hb5).grown hg hn
theorem grown_old {B k : Nat} {w w' : World} {v : Value} {L : List PT} {x : Obj} (hr : Row w B 45 5 five v L) (hg : w.grownBy w' v.ownBlock) (hk : w.heap[k]? = some x) (hb : k < B) : w'.heap[k]? = some x :=
  (hg.block k (Array.getElem?_eq_some_iff.1 hk).1 fun e => by have := (hr.low e.symm).1; omega).trans hk
theorem grown_but {B z : Nat} {w W W' : World} {v : Value} {L : List PT} (hr : Row W B 45 5 five v L) (hg : W.grownBy W' v.ownBlock) (hb : But z w W) (hB : w.heap.size ≤ B) : But z w W' :=
  ⟨hg.os.trans hb.os, hg.tape.trans hb.tape, hg.output.trans hb.output, Nat.le_trans hb.size hg.size, fun k hk hz => (hg.block k (Nat.lt_of_lt_of_le hk hb.size) fun e => by have := (hr.low e.symm).1; omega).trans (hb.block k hk hz)⟩
theorem new_five {w : World} {U : PT} : ∀ k u, (five U)[k]? = some u → (w.alloc (.cells (patO U) 45)).cell? ⟨w.heap.size, k, none⟩ = some u := fun k u h => by
  rw [cell_of_row _ _ _ _ _ _ (at_new rfl), ← Array.getElem?_toList]
  exact h
theorem pcF_step (d : Nat) (B : Nat → Rd PT) (s : ByteArray) (f : Nat) (l : List PT) (i : Nat) : pcF d B s (f + 1) l i = if begN (nx s i) = true then bnd (piP d B s (sk s i)) fun p j => pcF d B s f (l ++ [p]) j else .ok (l, sk s i) := rfl
theorem alF_step (d : Nat) (B : Nat → Rd PT) (s : ByteArray) (f : Nat) (l : List PT) (i : Nat) : alF d B s (f + 1) l i = if nx s i = 124 then bnd (pcP d B s (sk s i + 1)) fun p j => alF d B s f (l ++ [p]) j else .ok (l, sk s i) := rfl
structure Kds (w : World) (z : Nat) (s : ByteArray) (o : Int) (wr : World) (v : Value) (k : Nat) (l L : List PT) : Prop where
  rdr : Rdr wr z s k o
  but : But z w wr
  box : wr.heap[w.heap.size]? = some (.cells zeroP 45 (0, 0))
  kids : KidsL (w.heap.size + 1) wr v L l
  nonil : L ≠ []
  shp : Shapes wr
theorem Kds.next {w : World} {z : Nat} {s : ByteArray} {o : Int} {wr w' : World} {v : Value} {k j : Nat} {l L : List PT} (h : Kds w z s o wr v k l L) (hb : But z wr w') (hR : Rdr w' z s j o) (hz : z < w.heap.size) (hzG : z ≠ 4) : Kds w z s o w' v j l L :=
  ⟨hR, h.but.trans hb, but_z hb h.box (by omega), h.kids.but hb (by omega), h.nonil, h.shp.but hb hzG⟩
theorem Kds.size {w : World} {z : Nat} {s : ByteArray} {o : Int} {wr : World} {v : Value} {k : Nat} {l L : List PT} (h : Kds w z s o wr v k l L) : w.heap.size + 1 ≤ wr.heap.size := (Array.getElem?_eq_some_iff.1 h.box).1
theorem Kds.put {w : World} {z : Nat} {s : ByteArray} {o : Int} {w3 w4 w6 : World} {v v' : Value} {k j : Nat} {l L : List PT} {U : PT} (h : Kds w z s o w3 v k l L) (hb : But z w3 w4) (hR : Rdr w4 z s j o) (hz : z < w.heap.size) (hL : Lies w3.heap.size w4 U) (hzG : z ≠ 4) (hG : 4 < w.heap.size)
    (hrow : Row w6 (w.heap.size + 1) 45 5 five v' (L ++ [U])) (hg : (w4.alloc (.cells (patO U) 45)).grownBy w6 v.ownBlock) (hn : v'.ownBlock = v.ownBlock ∨ v'.ownBlock = some (w4.alloc (.cells (patO U) 45)).heap.size) : Kds w z s o w6 v' j (l ++ [U.can]) (L ++ [U]) := by
  have hb5 : Below w4.heap.size w4 (w4.alloc (.cells (patO U) 45)) := ba _
  have hr5 := (h.kids.but hb (by omega)).row.later hb5
  have hs5 := (h.shp.but hb hzG).later hb5
  refine ⟨grown_old hr5 hg (hR.below hb5) (by omega), grown_but hr5 hg (h.but.trans (hb.trans (But.of_below hb5))) (by omega), grown_old hr5 hg (row_below (but_z hb h.box (by omega)) hb5) (by omega), h.kids.snoc h.size hb (by omega) hL hrow hg hn, by simp, ?_⟩
  refine fun K h1 h2 => ?_
  obtain ⟨a, b, c, d⟩ := hs5 K h1 h2
  have hgl : (w4.alloc (.cells (patO U) 45)).heap.size > 4 := by have := h.size; have := hb.size; rw [World.size_alloc]; omega
  have hgg : w6.heap[4]? = (w4.alloc (.cells (patO U) 45)).heap[4]? := hg.block _ hgl fun e => by have := (hr5.low e.symm).1; omega
  have key : ∀ o, w6.cell? ⟨4, o, none⟩ = (w4.alloc (.cells (patO U) 45)).cell? ⟨4, o, none⟩ := fun o => by
    unfold World.cell?
    rw [hgg]
  exact ⟨(key _).trans a, (key _).trans b, (key _).trans c, (key _).trans d⟩
theorem Shapes.lt {w : World} (h : Shapes w) : 4 < w.heap.size := by
  obtain ⟨a, -, -, -⟩ := h 1 (by decide) (by decide)
  unfold World.cell? at a
  rcases Nat.lt_or_ge 4 w.heap.size with q | q
  · exact q
  · rw [Array.getElem?_eq_none q] at a; cases a
set_option maxRecDepth 100000 in
set_option maxHeartbeats 4000000 in
theorem pieces_any {d : Nat} {B : ByteArray → Nat → Rd PT} (hB : ∀ s, Adv s (B s)) (HPI : Says 132 d (fun s => piP d (B s) s)) : Says 127 d (fun s => pcP d (B s) s) := by
  intro s i z w hs hi hR hS hzG
  have hzl := hR.lt
  have hG := hS.lt
  have hb0 : But z w (w.alloc (.cells zeroP 45)) := (But.refl z w).alloc _
  have hR0 := hR.below ((Below.refl _ _).alloc (Nat.le_refl _) (.cells zeroP 45))
  have hne : w.heap.size ≠ z := by omega
  have HB0 := hide hb0
  have HS0 := hide (hS.but hb0 hzG)
  have HX0 : Hid ((w.alloc (.cells zeroP 45)).heap[w.heap.size]? = some (.cells zeroP 45 (0, 0))) := hide (zbox)
  have HC : Hid (∀ i w, i ≤ s.size → Rdr w z s i ((200 - d : Nat) : Int) → Shapes w → Calls Tryz.prog 132 #[.pointer (some ⟨z, 0, none⟩)] w fun e w' => RdPost (patL w.heap.size) z s ((200 - d : Nat) : Int) w (piP d (B s) s i) e w') := hide (fun i w h1 h2 h3 => HPI s i z w hs h1 h2 h3 hzG)
  show Calls _ _ _ _ fun e w' => RdPost (patL w.heap.size) z s ((200 - d : Nat) : Int) w (pcP d (B s) s i) e w'
  have HRR : Hid (pcP d (B s) s i = bnd (piP d (B s) s i) fun p j => bnd (pcF d (B s) s (s.size + 1) [p] j) fun l e => .ok (togP 18 l, e)) := hide (rfl)
  have HAD := hide (fun i x j h => piP_adv (d := d) (hB s) i x j h)
  generalize pcP d (B s) s i = RR at *
  generalize ((200 - d : Nat) : Int) = o at *
  have HC0 := hide (unhide HC i _ hi hR0 (unhide HS0))
  have HADi := hide (fun x j => unhide HAD i x j hi)
  have HFS := hide (pcF_step d (B s) s)
  generalize pcF d (B s) s = F at *
  generalize piP d (B s) s = PP at *
  generalize PP i = RB at *
  clear hb0 hR0 hR hS HPI hB
  have HL0 := hide (Eq.refl (w.alloc (.cells zeroP 45)).heap.size)
  rcases RB with ⟨er, a1⟩ | ⟨p0, j0⟩
  · have HRE : Hid (RR = .error (er, a1)) := hide (by rw [unhide HRR, bnd_err])
    go_enter Tryz.func127, Tryz.ntmps127
    go_wp2_with (refine (unhide HC0).mono ?_; intro e w3 hP; obtain ⟨hb3, rfl⟩ := of_err hP rfl; clear hP; have HB3 := hide ((unhide HB0).trans hb3); clear hb3; unfold thr)
    exact ⟨rfl, post_err (unhide HRE) (unhide HB3) rfl⟩
  · have HR1 : Hid (RR = bnd (F (s.size + 1) [p0] j0) fun l e => .ok (togP 18 l, e)) := hide (by rw [unhide HRR, bnd_ok])
    have hadv := unhide HADi p0 j0 rfl
    clear HRR HADi
    go_enter Tryz.func127, Tryz.ntmps127
    go_wp2_with fail
    refine (unhide HC0).mono ?_
    intro e w1 hP
    obtain ⟨hb1, ⟨U, rfl, hU, hL⟩, hRd1⟩ := of_ok hP rfl
    have hs1 : w.heap.size + 1 ≤ w1.heap.size := by have := hb1.size; rw [World.size_alloc] at this; exact this
    rw [World.size_alloc] at hL
    have hb2 : Below w1.heap.size w1 (w1.alloc (.cells (patO U) 45)) := ba _
    have HK2 := hide (show Kds w z s o (w1.alloc (.cells (patO U) 45)) (.slice (some ⟨w1.heap.size, 0, none⟩) 1 1) j0 [p0] [U] from
      ⟨hRd1.below hb2, ((unhide HB0).trans hb1).trans (But.of_below hb2), row_below (but_z hb1 (unhide HX0) hne) hb2, hU ▸ KidsL.one hL (Nat.le_refl _) (by omega), by simp, ((unhide HS0).but hb1 hzG).later hb2⟩)
    clear hP hb1 hRd1 hU hL HC0 hb2
    unfold pv
    go_wp2_with fail
    rw [show (#[.int .i64 U.k, .string U.t, .int .i64 U.n, .string U.nm, .slice U.xa U.len U.cap] : Array Value) = patO U from rfl]
    generalize (w1.alloc (.cells (patO U) 45)) = w2 at *
    generalize Value.slice (some ⟨w1.heap.size, 0, none⟩) 1 1 = v0 at *
    go_loopw [3] (fun v wr => ∃ (f k : Nat) (l L : List PT), k ≤ s.size ∧ s.size < k + f ∧ L.length ≤ k ∧ Hid (Kds w z s o wr v k l L) ∧ Hid (RR = bnd (F f l k) fun l e => .ok (togP 18 l, e))) (fun _ wr => s.size + 1 - atIn wr z)
    case atStart => exact ⟨s.size + 1, j0, [p0], [U], hadv.2, by omega, by simp; omega, unhide HK2, unhide HR1⟩
    case round =>
      obtain ⟨f, k, l, L, hk, hf, hLk, HK, HE⟩ := hrel
      have hks := sk_le s k hk
      have HN := hide (next_any wr hs hk (unhide HK).rdr)
      have HG := hide (begins_any (nx s k) (bat_lt _ _))
      have HM := hide (unhide HK).rdr.at
      obtain ⟨f', rfl⟩ : ∃ f', f = f' + 1 := ⟨f - 1, by omega⟩
      have HE2 : Hid (RR = bnd (if begN (nx s k) = true then bnd (PP (sk s k)) fun p j => F f' (l ++ [p]) j else .ok (l, sk s k)) fun l e => .ok (togP 18 l, e)) := hide (by rw [unhide HE, unhide HFS])
      clear HE HK2
      have HADk := hide (fun x j => unhide HAD (sk s k) x j hks.2)
      have HCk := hide (fun w h1 h2 => unhide HC (sk s k) w hks.2 h1 h2)
      generalize nx s k = b at *
      generalize sk s k = m at *
      cases hbg : begN b
      · have HE3 : Hid (RR = .ok (togP 18 l, m)) := hide (by rw [unhide HE2, hbg, if_neg (by decide), bnd_ok])
        rw [hbg] at HG
        clear HE2 hbg HADk HCk
        go_wp2_with fail
        refine (unhide HN).mono ?_
        rintro e w3 ⟨rfl, hb3, hR3⟩
        have HK3 := hide ((unhide HK).next hb3 hR3 hzl hzG)
        clear hb3 hR3
        go_wp2_with fail
        refine (unhide HG _).mono ?_
        rintro e w3 ⟨rfl, rfl⟩
        have HT := hide (together_any 18 _ L (w.heap.size + 1) w3 (unhide HK3).kids.row (unhide HK3).nonil)
        go_wp2_with fail
        refine (unhide HT).mono ?_
        rintro e w4 ⟨⟨U2, rfl, hU2⟩, hb4⟩
        have HX4 := hide (row_below (unhide HK3).box hb4)
        have HU2 : Hid (U2.can = togP 18 l ∧ Lies (w.heap.size + 1) w4 U2) := hide (⟨by rw [togU_can hU2, (unhide HK3).kids.can]; rfl, (togU_lies (by decide) hU2 (unhide HK3).kids).below hb4⟩)
        have HB4 := hide ((unhide HK3).but.trans (But.of_below hb4))
        have H4 := hide ((unhide HK3).rdr.below hb4)
        clear hU2 hb4
        unfold pv
        go_wp2_with (first
          | (refine wpList_store_row rfl 45 _ _ rfl w.heap.size (patO U2) rfl rfl 45 zeroP (unhide HX4) size_pat rfl (patO_oneC _) ?_)
          | fail)
        (try simp only [Exit.inBlock, Exit.then])
        refine bodyPost_ret (results_cell_row rfl _ _ w.heap.size 45 (patO U2) (0, 0) _ rfl (setRow_heap _ _ _ _ _ _ (unhide HX4)) Tryz.underlying45 rfl size_pat) rfl ?_
        exact post_ok (unhide HE3) (but_setRow (unhide HB4) (Nat.le_refl _) _) ⟨U2, rfl, (unhide HU2).1, ((unhide HU2).2.setRow (by omega) _).mono (by omega)⟩ ((unhide H4).setRow hne _)
      · have HE3 : Hid (RR = bnd (bnd (PP m) fun p j => F f' (l ++ [p]) j) fun l e => .ok (togP 18 l, e)) := hide (by rw [unhide HE2, hbg, if_pos rfl])
        rw [hbg] at HG
        clear HE2 hbg HC HFS HAD HR1
        generalize PP m = RP at *
        go_wp2_with fail
        refine (unhide HN).mono ?_
        rintro e w3 ⟨rfl, hb3, hR3⟩
        have HK3 := hide ((unhide HK).next hb3 hR3 hzl hzG)
        clear hb3 hR3
        go_wp2_with fail
        refine (unhide HG _).mono ?_
        rintro e w3 ⟨rfl, rfl⟩
        rcases RP with ⟨er, a1⟩ | ⟨p, a1⟩
        · have HE4 : Hid (RR = .error (er, a1)) := hide (by rw [unhide HE3, bnd_err, bnd_err])
          go_wp2_with (refine (unhide HCk _ (unhide HK3).rdr (unhide HK3).shp).mono ?_; intro e w4 hP; obtain ⟨hb4, rfl⟩ := of_err hP rfl; clear hP; have HB4 := hide ((unhide HK3).but.trans hb4); clear hb4; unfold thr)
          exact ⟨rfl, post_err (unhide HE4) (unhide HB4) rfl⟩
        · have HE4 : Hid (RR = bnd (F f' (l ++ [p]) a1) fun l e => .ok (togP 18 l, e)) := hide (by rw [unhide HE3, bnd_ok])
          have hadv4 := unhide HADk p a1 rfl
          go_wp2_with fail
          refine (unhide HCk _ (unhide HK3).rdr (unhide HK3).shp).mono ?_
          intro e w4 hP
          obtain ⟨hb4, ⟨U2, rfl, hU2, hL2⟩, hR4⟩ := of_ok hP rfl
          have HK4 := hide (And.intro hb4 (And.intro hL2 (And.intro hR4 hU2)))
          have hb5 : Below w4.heap.size w4 (w4.alloc (.cells (patO U2) 45)) := ba _
          have HRW := hide (((unhide HK3).kids.but hb4 (by omega)).row.later hb5)
          have hsz5 : w.heap.size + 1 ≤ (w4.alloc (.cells (patO U2) 45)).heap.size := by have h1 := (unhide HK3).size; have h2 := hb4.size; rw [World.size_alloc]; omega
          clear hP hb4 hL2 hR4 hU2 hb5
          unfold pv
          go_wp2_with (first
            | (at_builtin; refine wpList_row Tryz.underlying43 info_pat rfl (by decide) (by decide) five_len five_one rfl _ _ rfl (unhide HRW) hsz5 U2 w4.heap.size 1 rfl rfl new_five (by omega) ?_; intro v' w6 hrow hgrow hown)
            | fail)
          have HK6 := hide ((unhide HK3).put (unhide HK4).1 (unhide HK4).2.2.1 hzl (unhide HK4).2.1 hzG hG hrow hgrow hown)
          clear hrow hgrow hown hsz5
          go_wp2_with fail
          have h6 := (unhide HK6).rdr.at
          exact ⟨⟨f', a1, l ++ [p], L ++ [U2], by omega, by omega, by simp; omega, by have h := unhide HK6; rw [(unhide HK4).2.2.2] at h; exact h, unhide HE4⟩, by rw [h6, unhide HM]; omega⟩
end Go.Proofs.YtpkmamgleofimaaGreatDoor

namespace Go.Proofs.YtpkmamgleofimaaGreatDoor
open Go.RowKit

set_option maxRecDepth 100000 in
set_option maxHeartbeats 4000000 in
theorem alts_any {d : Nat} {B : ByteArray → Nat → Rd PT} (hB : ∀ s, Adv s (B s)) (HPI : Says 127 d (fun s => pcP d (B s) s)) : Says 121 d (fun s => alP d (B s) s) := by
  intro s i z w hs hi hR hS hzG
  have hzl := hR.lt
  have hG := hS.lt
  have hb0 : But z w (w.alloc (.cells zeroP 45)) := (But.refl z w).alloc _
  have hR0 := hR.below ((Below.refl _ _).alloc (Nat.le_refl _) (.cells zeroP 45))
  have hne : w.heap.size ≠ z := by omega
  have HB0 := hide hb0
  have HS0 := hide (hS.but hb0 hzG)
  have HX0 : Hid ((w.alloc (.cells zeroP 45)).heap[w.heap.size]? = some (.cells zeroP 45 (0, 0))) := hide (zbox)
  have HC : Hid (∀ i w, i ≤ s.size → Rdr w z s i ((200 - d : Nat) : Int) → Shapes w → Calls Tryz.prog 127 #[.pointer (some ⟨z, 0, none⟩)] w fun e w' => RdPost (patL w.heap.size) z s ((200 - d : Nat) : Int) w (pcP d (B s) s i) e w') := hide (fun i w h1 h2 h3 => HPI s i z w hs h1 h2 h3 hzG)
  show Calls _ _ _ _ fun e w' => RdPost (patL w.heap.size) z s ((200 - d : Nat) : Int) w (alP d (B s) s i) e w'
  have HRR : Hid (alP d (B s) s i = bnd (pcP d (B s) s i) fun p j => bnd (alF d (B s) s (s.size + 1) [p] j) fun l e => .ok (togP 19 l, e)) := hide (rfl)
  have HAD := hide (fun i x j h => pcP_adv (d := d) (hB s) i x j h)
  generalize alP d (B s) s i = RR at *
  generalize ((200 - d : Nat) : Int) = o at *
  have HC0 := hide (unhide HC i _ hi hR0 (unhide HS0))
  have HADi := hide (fun x j => unhide HAD i x j hi)
  have HFS := hide (alF_step d (B s) s)
  generalize alF d (B s) s = F at *
  generalize pcP d (B s) s = PP at *
  generalize PP i = RB at *
  clear hb0 hR0 hR hS HPI hB
  have HL0 := hide (Eq.refl (w.alloc (.cells zeroP 45)).heap.size)
  rcases RB with ⟨er, a1⟩ | ⟨p0, j0⟩
  · have HRE : Hid (RR = .error (er, a1)) := hide (by rw [unhide HRR, bnd_err])
    go_enter Tryz.func121, Tryz.ntmps121
    go_wp2_with (refine (unhide HC0).mono ?_; intro e w3 hP; obtain ⟨hb3, rfl⟩ := of_err hP rfl; clear hP; have HB3 := hide ((unhide HB0).trans hb3); clear hb3; unfold thr)
    exact ⟨rfl, post_err (unhide HRE) (unhide HB3) rfl⟩
  · have HR1 : Hid (RR = bnd (F (s.size + 1) [p0] j0) fun l e => .ok (togP 19 l, e)) := hide (by rw [unhide HRR, bnd_ok])
    have hadv := unhide HADi p0 j0 rfl
    clear HRR HADi
    go_enter Tryz.func121, Tryz.ntmps121
    go_wp2_with fail
    refine (unhide HC0).mono ?_
    intro e w1 hP
    obtain ⟨hb1, ⟨U, rfl, hU, hL⟩, hRd1⟩ := of_ok hP rfl
    have hs1 : w.heap.size + 1 ≤ w1.heap.size := by have := hb1.size; rw [World.size_alloc] at this; exact this
    rw [World.size_alloc] at hL
    have hb2 : Below w1.heap.size w1 (w1.alloc (.cells (patO U) 45)) := ba _
    have HK2 := hide (show Kds w z s o (w1.alloc (.cells (patO U) 45)) (.slice (some ⟨w1.heap.size, 0, none⟩) 1 1) j0 [p0] [U] from
      ⟨hRd1.below hb2, ((unhide HB0).trans hb1).trans (But.of_below hb2), row_below (but_z hb1 (unhide HX0) hne) hb2, hU ▸ KidsL.one hL (Nat.le_refl _) (by omega), by simp, ((unhide HS0).but hb1 hzG).later hb2⟩)
    clear hP hb1 hRd1 hU hL HC0 hb2
    unfold pv
    go_wp2_with fail
    rw [show (#[.int .i64 U.k, .string U.t, .int .i64 U.n, .string U.nm, .slice U.xa U.len U.cap] : Array Value) = patO U from rfl]
    generalize (w1.alloc (.cells (patO U) 45)) = w2 at *
    generalize Value.slice (some ⟨w1.heap.size, 0, none⟩) 1 1 = v0 at *
    go_loopw [3] (fun v wr => ∃ (f k : Nat) (l L : List PT), k ≤ s.size ∧ s.size < k + f ∧ L.length ≤ k ∧ Hid (Kds w z s o wr v k l L) ∧ Hid (RR = bnd (F f l k) fun l e => .ok (togP 19 l, e))) (fun _ wr => s.size + 1 - atIn wr z)
    case atStart => exact ⟨s.size + 1, j0, [p0], [U], hadv.2, by omega, by simp; omega, unhide HK2, unhide HR1⟩
    case round =>
      obtain ⟨f, k, l, L, hk, hf, hLk, HK, HE⟩ := hrel
      have hks := sk_le s k hk
      have HN := hide (next_any wr hs hk (unhide HK).rdr)
      have HM := hide (unhide HK).rdr.at
      obtain ⟨f', rfl⟩ : ∃ f', f = f' + 1 := ⟨f - 1, by omega⟩
      have HE2 : Hid (RR = bnd (if nx s k = 124 then bnd (PP (sk s k + 1)) fun p j => F f' (l ++ [p]) j else .ok (l, sk s k)) fun l e => .ok (togP 19 l, e)) := hide (by rw [unhide HE, unhide HFS])
      clear HE HK2
      have HLT := hide (fun (h : nx s k = 124) => nx_in (s := s) (i := k) (by omega))
      generalize nx s k = b at *
      generalize sk s k = m at *
      by_cases hbg : ¬ b = 124
      · have HE3 : Hid (RR = .ok (togP 19 l, m)) := hide (by rw [unhide HE2, if_neg hbg, bnd_ok])
        have e0 : ((b : Int) == 124) = false := bn
        clear HE2 hbg HLT
        go_wp2_with fail
        refine (unhide HN).mono ?_
        rintro e w3 ⟨rfl, hb3, hR3⟩
        have HK3 := hide ((unhide HK).next hb3 hR3 hzl hzG)
        clear hb3 hR3
        go_wp2_with fail
        have HT := hide (together_any 19 _ L (w.heap.size + 1) w3 (unhide HK3).kids.row (unhide HK3).nonil)
        go_wp2_with fail
        refine (unhide HT).mono ?_
        rintro e w4 ⟨⟨U2, rfl, hU2⟩, hb4⟩
        have HX4 := hide (row_below (unhide HK3).box hb4)
        have HU2 : Hid (U2.can = togP 19 l ∧ Lies (w.heap.size + 1) w4 U2) := hide (⟨by rw [togU_can hU2, (unhide HK3).kids.can]; rfl, (togU_lies (by decide) hU2 (unhide HK3).kids).below hb4⟩)
        have HB4 := hide ((unhide HK3).but.trans (But.of_below hb4))
        have H4 := hide ((unhide HK3).rdr.below hb4)
        clear hU2 hb4
        unfold pv
        go_wp2_with (first
          | (refine wpList_store_row rfl 45 _ _ rfl w.heap.size (patO U2) rfl rfl 45 zeroP (unhide HX4) size_pat rfl (patO_oneC _) ?_)
          | fail)
        (try simp only [Exit.inBlock, Exit.then])
        refine bodyPost_ret (results_cell_row rfl _ _ w.heap.size 45 (patO U2) (0, 0) _ rfl (setRow_heap _ _ _ _ _ _ (unhide HX4)) Tryz.underlying45 rfl size_pat) rfl ?_
        exact post_ok (unhide HE3) (but_setRow (unhide HB4) (Nat.le_refl _) _) ⟨U2, rfl, (unhide HU2).1, ((unhide HU2).2.setRow (by omega) _).mono (by omega)⟩ ((unhide H4).setRow hne _)
      · have hbg := Decidable.not_not.1 hbg
        have HE3 : Hid (RR = bnd (bnd (PP (m + 1)) fun p j => F f' (l ++ [p]) j) fun l e => .ok (togP 19 l, e)) := hide (by rw [unhide HE2, if_pos hbg])
        have hmlt := unhide HLT hbg
        have HADk := hide (fun x j => unhide HAD (m + 1) x j (by omega))
        have HCk := hide (fun w h1 h2 => unhide HC (m + 1) w (by omega) h1 h2)
        have e0 : ((b : Int) == 124) = true := bt
        clear HE2 HC HFS HAD HR1 HLT
        subst hbg
        generalize PP (m + 1) = RP at *
        go_wp2_with fail
        refine (unhide HN).mono ?_
        rintro e w3 ⟨rfl, hb3, hR3⟩
        have HK3 := hide ((unhide HK).next (hb3.trans ((But.refl z w3).setCell 1 (.int .i64 ((m + 1 : Nat) : Int)))) (hR3.set1 (m + 1)) hzl hzG)
        have c1 := hR3.c1
        have fz := hR3.fz 1
        clear hb3 hR3
        go_wp2_with fail
        rw [show ((m + 1 : Nat) : Int) = (m : Int) + 1 from rfl] at HK3
        generalize w3.setCell ⟨z, 1, none⟩ (.int .i64 ((m : Int) + 1)) = w3 at *
        clear c1 fz
        rcases RP with ⟨er, a1⟩ | ⟨p, a1⟩
        · have HE4 : Hid (RR = .error (er, a1)) := hide (by rw [unhide HE3, bnd_err, bnd_err])
          go_wp2_with (refine (unhide HCk _ (unhide HK3).rdr (unhide HK3).shp).mono ?_; intro e w4 hP; obtain ⟨hb4, rfl⟩ := of_err hP rfl; clear hP; have HB4 := hide ((unhide HK3).but.trans hb4); clear hb4; unfold thr)
          exact ⟨rfl, post_err (unhide HE4) (unhide HB4) rfl⟩
        · have HE4 : Hid (RR = bnd (F f' (l ++ [p]) a1) fun l e => .ok (togP 19 l, e)) := hide (by rw [unhide HE3, bnd_ok])
          have hadv4 := unhide HADk p a1 rfl
          go_wp2_with fail
          refine (unhide HCk _ (unhide HK3).rdr (unhide HK3).shp).mono ?_
          intro e w4 hP
          obtain ⟨hb4, ⟨U2, rfl, hU2, hL2⟩, hR4⟩ := of_ok hP rfl
          have HK4 := hide (And.intro hb4 (And.intro hL2 (And.intro hR4 hU2)))
          have hb5 : Below w4.heap.size w4 (w4.alloc (.cells (patO U2) 45)) := ba _
          have HRW := hide (((unhide HK3).kids.but hb4 (by omega)).row.later hb5)
          have hsz5 : w.heap.size + 1 ≤ (w4.alloc (.cells (patO U2) 45)).heap.size := by have h1 := (unhide HK3).size; have h2 := hb4.size; rw [World.size_alloc]; omega
          clear hP hb4 hL2 hR4 hU2 hb5
          unfold pv
          go_wp2_with (first
            | (at_builtin; refine wpList_row Tryz.underlying43 info_pat rfl (by decide) (by decide) five_len five_one rfl _ _ rfl (unhide HRW) hsz5 U2 w4.heap.size 1 rfl rfl new_five (by omega) ?_; intro v' w6 hrow hgrow hown)
            | fail)
          have HK6 := hide ((unhide HK3).put (unhide HK4).1 (unhide HK4).2.2.1 hzl (unhide HK4).2.1 hzG hG hrow hgrow hown)
          clear hrow hgrow hown hsz5
          go_wp2_with fail
          have h6 := (unhide HK6).rdr.at
          exact ⟨⟨f', a1, l ++ [p], L ++ [U2], by omega, by omega, by simp; omega, by have h := unhide HK6; rw [(unhide HK4).2.2.2] at h; exact h, unhide HE4⟩, by rw [h6, unhide HM]; omega⟩
end Go.Proofs.YtpkmamgleofimaaGreatDoor
