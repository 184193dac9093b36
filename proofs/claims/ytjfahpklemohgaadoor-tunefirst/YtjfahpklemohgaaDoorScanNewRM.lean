/- What lay does with any pattern; which rule has a name, where there are none. The machine as it is made where there are rules; a root is stored. What newMachine makes where there are rules. -/
import Derived.Test.YtjfahpklemohgaaDoorScanFillG
import Derived.Test.YtjfahpklemohgaaDoorScanRulesG
import Derived.Test.YtjfahpklemohgaaDoorClone4M
import Derived.Deep.RegionWith
import Derived.Deep.OwnRows
namespace Go.Proofs.YtjfahpklemohgaaDoor
open Go.RowKit

def LayPost (rn : ByteArray → Int) (T : PT) (w : World) (B g : Nat) (m : MS) (N : List Nd) (O : List Int) (W : List Wr) (C : List Cr) (G S : List Gft) (e : Ending) (w' : World) : Prop :=
  e = .returned (.int .i64 (N.length : Int)) ∧ ∃ v N', Rep w' B g { m with nv := v } N' O W C G S ∧ Fr g m { m with nv := v } w w' ∧ Lies rn N' T N.length ∧ (∀ i, i < N.length → N'[i]? = N[i]?) ∧ (N'.length = N.length + T.cnt ∧ (∀ {A : Nat}, Fresh A N → Fresh A N'))

set_option maxRecDepth 100000 in
set_option maxHeartbeats 1000000 in
theorem index_none {xa : Option Addr} {cap : Nat} (v : Value) (w : World) : Calls Tryd.prog 70 #[.slice xa 0 cap, v] w fun e w' => e = .returned (.int .i64 (-1)) ∧ w' = w := by
  go_enter Tryd.func70, Tryd.ntmps70
  go_wp2_with fail
  go_loop [8] (fun i => i = .int .i64 0) (fun _ => 0)
  case atStart => rfl
  case round =>
    subst hrel
    go_wp2_with fail
    go_ret
    exact ⟨rfl, rfl⟩
set_option maxRecDepth 100000 in
set_option maxHeartbeats 1000000 in
theorem rule_none {xa : Option Addr} {cap : Nat} (nm : ByteArray) (w : World) : Calls Tryd.prog 46 #[.slice xa 0 cap, .string nm] w fun e w' => e = .returned (.int .i64 (-1)) ∧ Below w.heap.size w w' := by
  go_enter Tryd.func46, Tryd.ntmps46
  go_wp2_with (go_at_call 70; refine (index_none _ _).mono ?_; rintro e w1 ⟨rfl, rfl⟩)
  go_ret
  exact ⟨rfl, (Below.refl _ _).alloc (Nat.le_refl _) _⟩
theorem rn_none {xa : Option Addr} {cap : Nat} (Wd : World) : RN (fun _ => -1) (.slice xa 0 cap) Wd := fun W _ nm _ => rule_none nm W

set_option maxRecDepth 100000 in
set_option maxHeartbeats 4000000 in
theorem lay_anyG (rn : ByteArray → Int) (T : PT) {Wd w : World} {B g : Nat} {m : MS} {N : List Nd} {O : List Int} {W : List Wr} {C : List Cr} {G S : List Gft} (hT : T.In Wd) (hbel : Below Wd.heap.size Wd w) (hWB : Wd.heap.size ≤ B) (h : Rep w B g m N O W C G S) (hcn : N.length + T.cnt ≤ 800000) (hBare : NZ T) (hRN : RN rn m.rv Wd) :
    Calls Tryd.prog 26 #[.pointer (some ⟨g, 0, none⟩), pv T] w fun e w' => LayPost rn T w B g m N O W C G S e w' := by
  unfold pv
  have hgl := h.lt
  have hgz : ¬ g = w.heap.size := by omega
  have hzg : ¬ w.heap.size = g := by omega
  have hcp := T.cnt_pos
  obtain ⟨na, nc, hnv, -, -⟩ := h.nodes.len
  have c2 := h.c2
  rw [hnv] at c2
  have hb1 : Below w.heap.size w ((w.alloc (.cells #[.int .i64 T.k, .string T.t, .int .i64 T.n, .string T.nm, .slice T.xa T.len T.cap] 25)).alloc (.cells #[.int .i64 0, .string ⟨#[]⟩, .int .i64 0, .string ⟨#[]⟩, .int .i64 0, .int .i64 0, .int .i64 0, .pointer none, .int .i64 0, .int .i64 0] 91)) := ((Below.refl _ _).alloc (Nat.le_refl _) _).alloc (by simp) _
  have HRow := hide (show Row ((w.alloc (.cells #[.int .i64 T.k, .string T.t, .int .i64 T.n, .string T.nm, .slice T.xa T.len T.cap] 25)).alloc (.cells #[.int .i64 0, .string ⟨#[]⟩, .int .i64 0, .string ⟨#[]⟩, .int .i64 0, .int .i64 0, .int .i64 0, .pointer none, .int .i64 0, .int .i64 0] 91)) B 91 10 ndV (.slice na N.length nc) N from (show Row w B 91 10 ndV (.slice na N.length nc) N from by rw [← hnv]; exact h.nodes).later hb1)
  have hne : some g ≠ (Value.slice na N.length nc).ownBlock := by rw [← hnv]; exact h.nodes.neBlk h.blk (by decide)
  have hbx : ((w.alloc (.cells #[.int .i64 T.k, .string T.t, .int .i64 T.n, .string T.nm, .slice T.xa T.len T.cap] 25)).alloc (.cells #[.int .i64 0, .string ⟨#[]⟩, .int .i64 0, .string ⟨#[]⟩, .int .i64 0, .int .i64 0, .int .i64 0, .pointer none, .int .i64 0, .int .i64 0] 91)).heap[w.heap.size]? = some (.cells #[.int .i64 T.k, .string T.t, .int .i64 T.n, .string T.nm, .slice T.xa T.len T.cap] 25 (0, 0)) := at_old (by simp) (at_new rfl)
  have HR := hide h
  have HI := hide (And.intro hT (And.intro hbel (And.intro (And.intro hBare hRN) (And.intro hb1 (And.intro hbx hnv)))))
  have hB1 : B ≤ ((w.alloc (.cells #[.int .i64 T.k, .string T.t, .int .i64 T.n, .string T.nm, .slice T.xa T.len T.cap] 25)).alloc (.cells #[.int .i64 0, .string ⟨#[]⟩, .int .i64 0, .string ⟨#[]⟩, .int .i64 0, .int .i64 0, .int .i64 0, .pointer none, .int .i64 0, .int .i64 0] 91)).heap.size := Nat.le_trans h.base hb1.size
  have hc2' := cell_later hb1 c2
  have hblk1 := hide (row_below h.blk hb1)
  clear h hT hbel hBare hRN hb1 hbx hnv
  go_enter Tryd.func26, Tryd.ntmps26
  go_wp2_with (refine wpList_row Tryd.underlying51 info_node rfl (by decide) (by decide) ndV_len ndV_one rfl (.tmp 15) (.tmp 17) rfl (B := B) (v := .slice na N.length nc) (l := N) (unhide HRow) hB1 nd0 (w.heap.size + 1) 1 (by simp [Act.eval]) (by simp [Act.eval]) (made_cells (at_new (w := w.alloc (.cells #[.int .i64 T.k, .string T.t, .int .i64 T.n, .string T.nm, .slice T.xa T.len T.cap] 25)) (by simp)) rfl) (by omega) ?_; intro v' w9 hr9 hg9 hv9; obtain ⟨gn, gcap, hv', hcl, -⟩ := hr9.form (by simp); rw [List.length_append, List.length_singleton] at hv'; subst hv'; have d2 := hg9.cell hc2' hne; have e2 : w9.frozen? ⟨g, 2, none⟩ = false := frozen_of_row w9 g 2 _ _ (grown_blk (unhide hblk1) (fun j hj => (unhide HRow).type hj) (by decide) hg9); have hbx9 := grown_blk (unhide HI).2.2.2.2.1 (fun j hj => (unhide HRow).type hj) (by decide) hg9; have z0 : w9.cell? ⟨w.heap.size, 0, none⟩ = some (.int .i64 T.k) := (by rw [cell_of_row _ _ _ _ _ _ hbx9]; rfl); have z1 : w9.cell? ⟨w.heap.size, 1, none⟩ = some (.string T.t) := (by rw [cell_of_row _ _ _ _ _ _ hbx9]; rfl); have z2 : w9.cell? ⟨w.heap.size, 2, none⟩ = some (.int .i64 T.n) := (by rw [cell_of_row _ _ _ _ _ _ hbx9]; rfl); have z3 : w9.cell? ⟨w.heap.size, 3, none⟩ = some (.string T.nm) := (by rw [cell_of_row _ _ _ _ _ _ hbx9]; rfl); have z4 : w9.cell? ⟨w.heap.size, 4, none⟩ = some (.slice T.xa T.len T.cap) := (by rw [cell_of_row _ _ _ _ _ _ hbx9]; rfl); have H9 := hide (And.intro hr9 (And.intro hg9 hv9)); clear hr9 hg9 hv9 hbx9)
  obtain ⟨hT, hbel, hBare, hb1, -, hnv⟩ := unhide HI
  obtain ⟨hr9, hg9, hv9⟩ := unhide H9
  rw [← hnv] at hg9 hv9
  have r2 := ((unhide HR).later hb1).grownN hg9 hr9
  have f2 := (Fr.later (g := g) (m := m) hb1).trans (Fr.growN hg9 hv9)
  have HC := hide (fill_anyG rn T Wd _ B g _ _ O W C G S N.length hT (hbel.trans ((Fr.below (unhide HR) f2).mono hWB)) hWB r2 (by simp) (by simp; omega) hBare.1 hBare.2)
  unfold pv at HC
  have HF2 := hide f2
  clear r2 f2 hr9 hg9 hv9 hT hbel hBare hb1 hnv
  refine (unhide HC).mono ?_
  rintro e w6 ⟨rfl, v6, N6, r6, f6, l6, o6, n6⟩
  have H6 := hide (And.intro r6 (And.intro f6 (And.intro l6 (And.intro o6 n6))))
  clear r6 f6 l6 o6 n6 HC
  go_wp2_with fail
  go_ret
  obtain ⟨r6, f6, l6, o6, n6⟩ := unhide H6
  refine ⟨rfl, v6, N6, r6, (unhide HF2).trans f6, l6, fun i hi => ?_, ?_, fun hfr => o6.2 (hfr.zeros 1)⟩
  · rw [o6.1 i (by simp; omega) (by omega), List.getElem?_append_left hi]
  · simp at n6; omega
end Go.Proofs.YtjfahpklemohgaaDoor

namespace Go.Proofs.YtjfahpklemohgaaDoor
open Go.RowKit

theorem info_int : (Tryd.prog.info? 3).map (fun i => (i.zero, i.size, i.bytes)) = some (some (.int .i64 0), 1, 8) := by kernel_rfl

theorem made_ints (n : Nat) : madeCells #[Value.int .i64 0] n = (flat inV (List.replicate n 0)).toArray := by
  apply Array.ext'
  simp only [madeCells]
  induction n with
  | zero => simp [flat]
  | succ n ih => rw [Array.range_succ, Array.map_append, Array.toList_append, ih, List.replicate_succ', flat_append]; simp [flat, inV, Nat.mod_one]
theorem make_ints (n : Nat) (hn : n ≤ 1000000) (W : World) : (Instr.makeSlice 52 (.int .i64 (n : Int)) (.int .i64 (n : Int))).run Tryd.prog W = .ok (.slice (some ⟨W.heap.size, 0, none⟩) n n) (W.alloc (.cells (flat inV (List.replicate n 0)).toArray 3)) := by
  have := run_make_row' (P := Tryd.prog) 52 3 (.int .i64 0) 8 Tryd.underlying52 info_int rfl .i64 .i64 n (by omega) (by omega) W
  rw [made_ints] at this
  exact this

/-- The machine as it is made. -/
def msNewR (s : ByteArray) (rv : Value) (rg n fuel room : Nat) : MS := ⟨s, rv, .slice none 0 0, 0, .slice (some ⟨rg, 0, none⟩) n n, false, 0, 0, 0, .slice none 0 0, .slice none 0 0, .slice none 0 0, .slice none 0 0, 0, room, fuel, 0, false, 0⟩
theorem rep_newR {w : World} {B g rg n : Nat} {s : ByteArray} {rv : Value} {fuel room : Nat} (hn : n ≤ 1000000) (hg : w.heap[g]? = some (.cells (msNewR s rv rg n fuel room).row 56 (0, 0))) (hr : w.heap[rg]? = some (.cells (flat inV (List.replicate n 0)).toArray 3 (0, 0))) (h1 : B ≤ g) (h2 : B ≤ rg) : Rep w B g (msNewR s rv rg n fuel room) [] (List.replicate n 0) [] [] [] [] :=
  have hl : (flat inV (List.replicate n 0)).length = n := by rw [flat_len inV_len]; simp
  ⟨h1, hg, World.ownsRow_nil w B _ 10, ⟨by rw [flat_len inV_len], .inr ⟨rg, n, (flat inV (List.replicate n 0)).toArray, by simp [msNewR], h2, hr, by simp, Nat.le_trans hn (by decide), by simp [hl], by rw [List.take_of_length_le (by simp [hl])]⟩⟩, World.ownsRow_nil w B _ 4, World.ownsRow_nil w B _ 6, World.ownsRow_nil w B _ 2, World.ownsRow_nil w B _ 2, (fun k hk => by cases hk), by have := (Array.getElem?_eq_some_iff.1 hg).1; omega⟩
/-- A root is stored. -/
theorem RepOset {w : World} {B g : Nat} {m : MS} {N : List Nd} {O : List Int} {W : List Wr} {C : List Cr} {G S : List Gft} (h : Rep w B g m N O W C G S) {gn n cap a : Nat} (hv : m.ro = .slice (some ⟨gn, 0, none⟩) n cap) (ha : a < O.length) (y : Int) : Rep (w.setCell ⟨gn, a, none⟩ (.int .i64 y)) B g m N (O.set a y) W C G S := by
  have ho : m.ro.ownBlock = some gn := by rw [hv]; rfl
  obtain ⟨cur, hcur⟩ := h.roots.type ho
  have hb : But gn w (w.setCell ⟨gn, a, none⟩ (.int .i64 y)) := (But.refl gn w).setCell _ _
  have hne : g ≠ gn := fun e => h.roots.neBlk h.blk (by decide) (by rw [ho, e])
  have hs := h.roots.set inV_len (k := 0) (u := .int .i64 y) (y := y) hv (List.getElem?_eq_getElem ha) (by decide) rfl
  rw [Nat.mul_one, Nat.add_zero] at hs
  exact ⟨h.low, hb.row hne h.blk, h.nodes.keepBut hcur (by decide) hb, hs, h.works.keepBut hcur (by decide) hb, h.choices.keepBut hcur (by decide) hb, h.given.keepBut hcur (by decide) hb, h.said.keepBut hcur (by decide) hb, h.apart, Nat.le_trans h.base hb.size⟩
theorem FrOset {w : World} {g : Nat} {m : MS} {gn : Nat} (ho : m.ro.ownBlock = some gn) (k : Nat) (v : Value) : Fr g m m w (w.setCell ⟨gn, k, none⟩ v) :=
  ⟨rfl, rfl, rfl, by simp, fun i _ hn => heap_setCell_other w ⟨gn, k, none⟩ i v (fun e => hn (.inr (.inr (.inl (by rw [ho]; exact congrArg some e.symm))))), fun _ h => .inl h⟩
end Go.Proofs.YtjfahpklemohgaaDoor

namespace Go.Proofs.YtjfahpklemohgaaDoor
open Go.RowKit

set_option maxRecDepth 100000 in
set_option maxHeartbeats 4000000 in
theorem new_any {xa : Option Addr} {cap : Nat} {RL : List (ByteArray × PT)} (T : PT) (s : ByteArray) (fuel room : Nat) (w : World) (hR : RN (fun nm => ruleAt nm RL 0) (.slice xa RL.length cap) w) (hl : RL.length ≤ 1000000) (hT : T.In w) (hs : s.size ≤ 65536) (hcn : T.cnt ≤ 100000) (hBare : NZ T) :
    Calls Tryd.prog 12 #[.slice xa RL.length cap, pv T, .string s, .int .i64 (fuel : Int), .int .i64 (room : Int)] w fun e w' => ∃ g m N, e = .returned (.pointer (some ⟨g, 0, none⟩)) ∧ Rep w' w.heap.size g m N (List.replicate RL.length (-1)) [] [] [] [] ∧ m.s = s ∧ m.rv = .slice xa RL.length cap ∧ m.fuel = fuel ∧ m.room = room ∧ m.ticks = 0 ∧ m.told = 0 ∧ m.shut = false ∧ m.err = 0 ∧ m.begun = false ∧ m.root = 0 ∧ Lies (fun nm => ruleAt nm RL 0) N T 0 ∧ (Fresh 0 N ∧ N.length = T.cnt) ∧ Below w.heap.size w w' := by
  unfold pv
  have HI := hide (And.intro hT (And.intro hBare hR))
  have hmk := make_ints RL.length hl
  have HCl := hide (fun W => clone_any s W (by omega))
  clear hT hBare hR
  go_enter Tryd.func12, Tryd.ntmps12
  go_wp2_with fail
  go_region_with (first | (go_at_call 25; refine (unhide HCl _).mono ?_; rintro e w1 ⟨rfl, hb1⟩))
  · have hba : Below w.heap.size w (w.alloc (.cells #[.int .i64 T.k, .string T.t, .int .i64 T.n, .string T.nm, .slice T.xa T.len T.cap] 25)).drew := ((Below.refl _ _).alloc (Nat.le_refl _) _).drew
    have hsz := hb1.size
    simp only [World.size_drew, World.size_alloc] at hsz
    obtain ⟨w2, hw2⟩ : ∃ w2, w2 = (w1.alloc (.cells (flat inV (List.replicate RL.length 0)).toArray 3)).alloc (.cells #[.string s, (.slice xa RL.length cap), .slice none 0 0, .int .i64 0, .slice (some ⟨w1.heap.size, 0, none⟩) RL.length RL.length, .bool false, .int .i64 0, .int .i64 0, .int .i64 0, .slice none 0 0, .slice none 0 0, .slice none 0 0, .slice none 0 0, .int .i64 0, .int .i64 (room : Int), .int .i64 (fuel : Int), .int .i64 0, .bool false, .int .i64 0] 56) := ⟨_, rfl⟩
    have hb2 : Below w1.heap.size w1 w2 := by rw [hw2]; exact ((Below.refl _ _).alloc (Nat.le_refl _) _).alloc (by simp) _
    have hbel : Below w.heap.size w w2 := bnext (bnext hba hb1) hb2
    have hgr : w2.heap[w1.heap.size + 1]? = some (.cells (msNewR s (.slice xa RL.length cap) w1.heap.size RL.length fuel room).row 56 (0, 0)) := by rw [hw2]; exact at_new (by simp)
    have hrr : w2.heap[w1.heap.size]? = some (.cells (flat inV (List.replicate RL.length 0)).toArray 3 (0, 0)) := by rw [hw2]; exact at_old (by simp) (at_new rfl)
    have hbx : w2.heap[w.heap.size]? = some (.cells #[.int .i64 T.k, .string T.t, .int .i64 T.n, .string T.nm, .slice T.xa T.len T.cap] 25 (0, 0)) := row_below (row_below (W := (w.alloc (.cells #[.int .i64 T.k, .string T.t, .int .i64 T.n, .string T.nm, .slice T.xa T.len T.cap] 25)).drew) (at_new (w := w) rfl) hb1) hb2
    clear hba hb2
    rw [← hw2]
    obtain ⟨g, hg⟩ : ∃ g, g = w1.heap.size + 1 := ⟨_, rfl⟩
    rw [← hg] at hgr
    have r2 := rep_newR (B := w.heap.size) hl hgr hrr (by omega) (by omega)
    have hrg : w1.heap.size ≠ w.heap.size := by omega
    obtain ⟨rg, hrg'⟩ : ∃ rg, rg = w1.heap.size := ⟨_, rfl⟩
    rw [← hrg'] at r2 hrg
    rw [← hg, ← hrg']
    have c4 : w2.cell? ⟨g, 4, none⟩ = some (.slice (some ⟨rg, 0, none⟩) RL.length RL.length) := r2.c4
    have HB := hide hbel
    have HR2 := hide r2
    have HX := hide hbx
    have HG := hide hrg
    clear hgr hrr hbx hbel r2 hw2 hb1 HCl hmk hg hrg hrg' hsz
    go_wp2_with fail
    go_loopw [28] (fun i wr => ∃ k : Nat, k ≤ RL.length ∧ i = .int .i64 (k : Int) ∧ Hid (Rep wr w.heap.size g (msNewR s (.slice xa RL.length cap) rg RL.length fuel room) [] (List.replicate k (-1) ++ List.replicate (RL.length - k) 0) [] [] [] []) ∧ Hid (Below w.heap.size w wr) ∧ Hid (wr.heap[w.heap.size]? = some (.cells #[.int .i64 T.k, .string T.t, .int .i64 T.n, .string T.nm, .slice T.xa T.len T.cap] 25 (0, 0)))) (fun i _ => RL.length - (intOf i).toNat)
    case atStart => exact ⟨0, Nat.zero_le _, rfl, hide (by simpa using unhide HR2), unhide HB, unhide HX⟩
    case round =>
      obtain ⟨k, hk, rfl, HR, HW, HY⟩ := hrel
      clear HR2 HB HX c4
      rcases Nat.lt_or_ge k RL.length with hlt | hge
      · have hlt' : (k : Int) < (RL.length : Int) := by omega
        have c4 : wr.cell? ⟨g, 4, none⟩ = some (.slice (some ⟨rg, 0, none⟩) RL.length RL.length) := (unhide HR).c4
        have hget : (List.replicate k (-1 : Int) ++ List.replicate (RL.length - k) 0)[k]? = some 0 := by rw [List.getElem?_append_right (by simp), List.length_replicate, Nat.sub_self, List.getElem?_replicate, if_pos (by omega)]
        have q0 : wr.cell? ⟨rg, k, none⟩ = some (.int .i64 0) := by
          have := (unhide HR).roots.cell inV_len (g := rg) (cap := RL.length) (i := k) (k := 0) (by simp [msNewR]; omega) hget rfl
          simpa using this
        have q1 : wr.frozen? ⟨rg, k, none⟩ = false := (unhide HR).roots.frozen rfl k
        clear hget
        go_wp2_with fail
        have hls : (List.replicate k (-1 : Int) ++ List.replicate (RL.length - k) 0).set k (-1) = List.replicate (k + 1) (-1) ++ List.replicate (RL.length - (k + 1)) 0 := by
          rw [List.set_append_right _ _ (by simp), List.length_replicate, Nat.sub_self, show RL.length - k = (RL.length - (k + 1)) + 1 by omega, List.replicate_succ, List.set_cons_zero, List.replicate_succ', List.append_assoc]; rfl
        have hro := RepOset (unhide HR) (gn := rg) (a := k) rfl (by simp; omega) (-1)
        rw [hls] at hro
        refine ⟨⟨k + 1, hlt, by simp, hro, below_cell (unhide HW) ((unhide HR).roots.low rfl).1 _ _, (heap_setCell_other wr ⟨rg, k, none⟩ w.heap.size _ (unhide HG).symm).trans (unhide HY)⟩, by simp [intOf]; omega⟩
      · have hge' : ¬ (k : Int) < (RL.length : Int) := by omega
        obtain rfl : k = RL.length := by omega
        have r2 := unhide HR
        rw [Nat.sub_self, List.replicate_zero, List.append_nil] at r2
        have hbx := unhide HY
        have z0 : wr.cell? ⟨w.heap.size, 0, none⟩ = some (.int .i64 T.k) := by rw [cell_of_row _ _ _ _ _ _ hbx]; rfl
        have z1 : wr.cell? ⟨w.heap.size, 1, none⟩ = some (.string T.t) := by rw [cell_of_row _ _ _ _ _ _ hbx]; rfl
        have z2 : wr.cell? ⟨w.heap.size, 2, none⟩ = some (.int .i64 T.n) := by rw [cell_of_row _ _ _ _ _ _ hbx]; rfl
        have z3 : wr.cell? ⟨w.heap.size, 3, none⟩ = some (.string T.nm) := by rw [cell_of_row _ _ _ _ _ _ hbx]; rfl
        have z4 : wr.cell? ⟨w.heap.size, 4, none⟩ = some (.slice T.xa T.len T.cap) := by rw [cell_of_row _ _ _ _ _ _ hbx]; rfl
        have c3 : wr.cell? ⟨g, 3, none⟩ = some (.int .i64 0) := r2.c3
        have HC := hide (lay_anyG (fun nm => ruleAt nm RL 0) T (unhide HI).1 (unhide HW) (Nat.le_refl _) r2 (by simp; omega) (unhide HI).2.1 (unhide HI).2.2)
        unfold pv at HC
        have HR2 := hide r2
        clear hbx r2 HR HY HI
        go_wp2_with fail
        refine (unhide HC).mono ?_
        rintro e w6 ⟨rfl, v, N6, r6, f6, l6, o6, n6⟩
        have d3 := r6.c3
        have e3 := r6.frozen 3
        have H6 := hide (And.intro r6 (And.intro f6 (And.intro l6 (And.intro ((show Fresh 0 [] → Fresh 0 N6 from n6.2) (fun i x _ hx => by simp at hx)) (by simpa using n6.1)))))
        clear r6 f6 l6 o6 n6 HC
        go_wp2_with fail
        go_ret
        obtain ⟨r6, f6, l6, fr6⟩ := unhide H6
        refine ⟨g, _, N6, rfl, r6.put 3 _ { msNewR s _ _ _ fuel room with nv := v, root := 0 } rfl rfl rfl rfl rfl rfl rfl, rfl, rfl, rfl, rfl, rfl, rfl, rfl, rfl, rfl, rfl, l6, fr6, ?_⟩
        exact below_cell (((unhide HW).trans (Fr.below (unhide HR2) f6))) (unhide HR2).low _ _
  · have hba : Below w.heap.size w ((w.alloc (.cells #[.int .i64 T.k, .string T.t, .int .i64 T.n, .string T.nm, .slice T.xa T.len T.cap] 25)).alloc (.cells (flat inV (List.replicate RL.length 0)).toArray 3)).drew := (((Below.refl _ _).alloc (Nat.le_refl _) _).alloc (by simp) _).drew
    have hsz := hb1.size
    simp only [World.size_drew, World.size_alloc] at hsz
    obtain ⟨w2, hw2⟩ : ∃ w2, w2 = w1.alloc (.cells #[.string s, (.slice xa RL.length cap), .slice none 0 0, .int .i64 0, .slice (some ⟨w.heap.size + 1, 0, none⟩) RL.length RL.length, .bool false, .int .i64 0, .int .i64 0, .int .i64 0, .slice none 0 0, .slice none 0 0, .slice none 0 0, .slice none 0 0, .int .i64 0, .int .i64 (room : Int), .int .i64 (fuel : Int), .int .i64 0, .bool false, .int .i64 0] 56) := ⟨_, rfl⟩
    have hb2 : Below w1.heap.size w1 w2 := by rw [hw2]; exact (Below.refl _ _).alloc (Nat.le_refl _) _
    have hbel : Below w.heap.size w w2 := bnext (bnext hba hb1) hb2
    have hgr : w2.heap[w1.heap.size]? = some (.cells (msNewR s (.slice xa RL.length cap) (w.heap.size + 1) RL.length fuel room).row 56 (0, 0)) := by rw [hw2]; exact at_new rfl
    have hrr : w2.heap[w.heap.size + 1]? = some (.cells (flat inV (List.replicate RL.length 0)).toArray 3 (0, 0)) := row_below (row_below (W := ((w.alloc (.cells #[.int .i64 T.k, .string T.t, .int .i64 T.n, .string T.nm, .slice T.xa T.len T.cap] 25)).alloc (.cells (flat inV (List.replicate RL.length 0)).toArray 3)).drew) (at_new (w := w.alloc (.cells #[.int .i64 T.k, .string T.t, .int .i64 T.n, .string T.nm, .slice T.xa T.len T.cap] 25)) (by simp)) hb1) hb2
    have hbx : w2.heap[w.heap.size]? = some (.cells #[.int .i64 T.k, .string T.t, .int .i64 T.n, .string T.nm, .slice T.xa T.len T.cap] 25 (0, 0)) := row_below (row_below (W := ((w.alloc (.cells #[.int .i64 T.k, .string T.t, .int .i64 T.n, .string T.nm, .slice T.xa T.len T.cap] 25)).alloc (.cells (flat inV (List.replicate RL.length 0)).toArray 3)).drew) (at_old (by simp) (at_new (w := w) rfl)) hb1) hb2
    clear hba hb2
    rw [← hw2]
    obtain ⟨g, hg⟩ : ∃ g, g = w1.heap.size := ⟨_, rfl⟩
    rw [← hg] at hgr
    have r2 := rep_newR (B := w.heap.size) hl hgr hrr (by omega) (by omega)
    have hrg : w.heap.size + 1 ≠ w.heap.size := by omega
    obtain ⟨rg, hrg'⟩ : ∃ rg, rg = w.heap.size + 1 := ⟨_, rfl⟩
    rw [← hrg'] at r2 hrg
    rw [← hg, ← hrg']
    have c4 : w2.cell? ⟨g, 4, none⟩ = some (.slice (some ⟨rg, 0, none⟩) RL.length RL.length) := r2.c4
    have HB := hide hbel
    have HR2 := hide r2
    have HX := hide hbx
    have HG := hide hrg
    clear hgr hrr hbx hbel r2 hw2 hb1 HCl hmk hg hrg hrg' hsz
    go_wp2_with fail
    go_loopw [28] (fun i wr => ∃ k : Nat, k ≤ RL.length ∧ i = .int .i64 (k : Int) ∧ Hid (Rep wr w.heap.size g (msNewR s (.slice xa RL.length cap) rg RL.length fuel room) [] (List.replicate k (-1) ++ List.replicate (RL.length - k) 0) [] [] [] []) ∧ Hid (Below w.heap.size w wr) ∧ Hid (wr.heap[w.heap.size]? = some (.cells #[.int .i64 T.k, .string T.t, .int .i64 T.n, .string T.nm, .slice T.xa T.len T.cap] 25 (0, 0)))) (fun i _ => RL.length - (intOf i).toNat)
    case atStart => exact ⟨0, Nat.zero_le _, rfl, hide (by simpa using unhide HR2), unhide HB, unhide HX⟩
    case round =>
      obtain ⟨k, hk, rfl, HR, HW, HY⟩ := hrel
      clear HR2 HB HX c4
      rcases Nat.lt_or_ge k RL.length with hlt | hge
      · have hlt' : (k : Int) < (RL.length : Int) := by omega
        have c4 : wr.cell? ⟨g, 4, none⟩ = some (.slice (some ⟨rg, 0, none⟩) RL.length RL.length) := (unhide HR).c4
        have hget : (List.replicate k (-1 : Int) ++ List.replicate (RL.length - k) 0)[k]? = some 0 := by rw [List.getElem?_append_right (by simp), List.length_replicate, Nat.sub_self, List.getElem?_replicate, if_pos (by omega)]
        have q0 : wr.cell? ⟨rg, k, none⟩ = some (.int .i64 0) := by
          have := (unhide HR).roots.cell inV_len (g := rg) (cap := RL.length) (i := k) (k := 0) (by simp [msNewR]; omega) hget rfl
          simpa using this
        have q1 : wr.frozen? ⟨rg, k, none⟩ = false := (unhide HR).roots.frozen rfl k
        clear hget
        go_wp2_with fail
        have hls : (List.replicate k (-1 : Int) ++ List.replicate (RL.length - k) 0).set k (-1) = List.replicate (k + 1) (-1) ++ List.replicate (RL.length - (k + 1)) 0 := by
          rw [List.set_append_right _ _ (by simp), List.length_replicate, Nat.sub_self, show RL.length - k = (RL.length - (k + 1)) + 1 by omega, List.replicate_succ, List.set_cons_zero, List.replicate_succ', List.append_assoc]; rfl
        have hro := RepOset (unhide HR) (gn := rg) (a := k) rfl (by simp; omega) (-1)
        rw [hls] at hro
        refine ⟨⟨k + 1, hlt, by simp, hro, below_cell (unhide HW) ((unhide HR).roots.low rfl).1 _ _, (heap_setCell_other wr ⟨rg, k, none⟩ w.heap.size _ (unhide HG).symm).trans (unhide HY)⟩, by simp [intOf]; omega⟩
      · have hge' : ¬ (k : Int) < (RL.length : Int) := by omega
        obtain rfl : k = RL.length := by omega
        have r2 := unhide HR
        rw [Nat.sub_self, List.replicate_zero, List.append_nil] at r2
        have hbx := unhide HY
        have z0 : wr.cell? ⟨w.heap.size, 0, none⟩ = some (.int .i64 T.k) := by rw [cell_of_row _ _ _ _ _ _ hbx]; rfl
        have z1 : wr.cell? ⟨w.heap.size, 1, none⟩ = some (.string T.t) := by rw [cell_of_row _ _ _ _ _ _ hbx]; rfl
        have z2 : wr.cell? ⟨w.heap.size, 2, none⟩ = some (.int .i64 T.n) := by rw [cell_of_row _ _ _ _ _ _ hbx]; rfl
        have z3 : wr.cell? ⟨w.heap.size, 3, none⟩ = some (.string T.nm) := by rw [cell_of_row _ _ _ _ _ _ hbx]; rfl
        have z4 : wr.cell? ⟨w.heap.size, 4, none⟩ = some (.slice T.xa T.len T.cap) := by rw [cell_of_row _ _ _ _ _ _ hbx]; rfl
        have c3 : wr.cell? ⟨g, 3, none⟩ = some (.int .i64 0) := r2.c3
        have HC := hide (lay_anyG (fun nm => ruleAt nm RL 0) T (unhide HI).1 (unhide HW) (Nat.le_refl _) r2 (by simp; omega) (unhide HI).2.1 (unhide HI).2.2)
        unfold pv at HC
        have HR2 := hide r2
        clear hbx r2 HR HY HI
        go_wp2_with fail
        refine (unhide HC).mono ?_
        rintro e w6 ⟨rfl, v, N6, r6, f6, l6, o6, n6⟩
        have d3 := r6.c3
        have e3 := r6.frozen 3
        have H6 := hide (And.intro r6 (And.intro f6 (And.intro l6 (And.intro ((show Fresh 0 [] → Fresh 0 N6 from n6.2) (fun i x _ hx => by simp at hx)) (by simpa using n6.1)))))
        clear r6 f6 l6 o6 n6 HC
        go_wp2_with fail
        go_ret
        obtain ⟨r6, f6, l6, fr6⟩ := unhide H6
        refine ⟨g, _, N6, rfl, r6.put 3 _ { msNewR s _ _ _ fuel room with nv := v, root := 0 } rfl rfl rfl rfl rfl rfl rfl, rfl, rfl, rfl, rfl, rfl, rfl, rfl, rfl, rfl, rfl, l6, fr6, ?_⟩
        exact below_cell (((unhide HW).trans (Fr.below (unhide HR2) f6))) (unhide HR2).low _ _
end Go.Proofs.YtjfahpklemohgaaDoor
