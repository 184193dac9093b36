/- What fill does with any pattern: its nodes are laid among the machine's, with their names and the numbers of the rules that they call. -/
import Derived.Test.YtkggmodabpjobaaDoorScanFill0
import Derived.Test.YtkggmodabpjobaaDoorClone4
import Derived.Deep.CutBlock
namespace Go.Proofs.YtkggmodabpjobaaDoor
open Go.RowKit

/-- From a node on no text has been looked at yet. -/
def Fresh (A : Nat) (N : List Nd) : Prop := ∀ (i : Nat) (x : Nd), A ≤ i → N[i]? = some x → x.st = none ∧ (x.k ≠ 0 → x.to < x.fr)
theorem Fresh.set {A : Nat} {N : List Nd} {a : Nat} {y : Nd} (h : Fresh A N) (h1 : y.st = none) (h2 : y.to < y.fr) : Fresh A (N.set a y) := fun i x hA hx => by
  rw [List.getElem?_set] at hx
  split at hx
  · split at hx
    · injection hx with hx
      subst hx
      exact ⟨h1, fun _ => h2⟩
    · cases hx
  · exact h i x hA hx
theorem Fresh.zeros {A : Nat} {N : List Nd} (h : Fresh A N) (k : Nat) : Fresh A (N ++ List.replicate k nd0) := fun i x hA hx => by
  rw [List.getElem?_append] at hx
  split at hx
  · exact h i x hA hx
  · rw [List.getElem?_replicate] at hx
    split at hx
    · injection hx with hx
      subst hx
      exact ⟨rfl, fun q => absurd rfl q⟩
    · cases hx
/-- What is kept of the nodes that were there. -/
def KeptN (N : List Nd) (a : Nat) (N' : List Nd) : Prop := (∀ i, i < N.length → i ≠ a → N'[i]? = N[i]?) ∧ (∀ {A : Nat}, Fresh A N → Fresh A N')
def FillPost (rn : ByteArray → Int) (T : PT) (w : World) (B g : Nat) (m : MS) (N : List Nd) (O : List Int) (W : List Wr) (C : List Cr) (G S : List Gft) (a : Nat) (e : Ending) (w' : World) : Prop :=
  e = .returned (.tuple #[]) ∧ ∃ v N', Rep w' B g { m with nv := v } N' O W C G S ∧ Fr g m { m with nv := v } w w' ∧ Lies rn N' T a ∧ KeptN N a N' ∧ N'.length + 1 = N.length + T.cnt
end Go.Proofs.YtkggmodabpjobaaDoor

namespace Go.Proofs.YtkggmodabpjobaaDoor
open Go.RowKit

/-- Kinds that are kinds, names that are not too long. -/
def NZ : PT → Prop
  | .node k _ _ nm _ _ _ len _ kids => (k ≠ 0 ∧ ((21 ≤ k ∧ k ≤ 24) → nm.size ≤ 1000000)) ∧ ∀ j : Fin len, NZ (kids j)
theorem nz_here {T : PT} (h : NZ T) : T.k ≠ 0 ∧ ((21 ≤ T.k ∧ T.k ≤ 24) → T.nm.size ≤ 1000000) := by cases T; exact h.1
theorem nz_kid {T : PT} (h : NZ T) {j : Nat} (hj : j < T.len) : NZ (T.kid j) := by
  rw [PT.kid_at hj]
  cases T; exact h.2 ⟨j, hj⟩
theorem nz_mono {rn : ByteArray → Int} {N N' : List Nd} (hs : ∀ (i : Nat) (x : Nd), N[i]? = some x → x.k ≠ 0 → N'[i]? = some x) : ∀ {T : PT} {i : Nat}, NZ T → Lies rn N T i → Lies rn N' T i
  | .node k t n nm xa b o len cap kids, i, hb, h => by
    have ih := fun (j : Fin len) (q : Nat) => nz_mono (rn := rn) hs (T := kids j) (i := q) (hb.2 j)
    obtain ⟨x, h1, h2, h3, h4, h5, h6, h7, h8, h9⟩ := h
    exact ⟨x, hs i x h1 (by rw [h2]; exact hb.1.1), h2, h3, h4, h5, h6, h7, h8, fun j => ih j _ (h9 j)⟩
/-- Which rule has a name, in whatever world comes of this one. -/
def RN (rn : ByteArray → Int) (rv : Value) (Wd : World) : Prop := ∀ W, Below Wd.heap.size Wd W → ∀ nm : ByteArray, nm.size ≤ 1000000 → Calls Tryd.prog 26 #[rv, .string nm] W fun e w' => e = .returned (.int .i64 (rn nm)) ∧ Below W.heap.size W w'
theorem Rep.butFree {w w' : World} {B g y : Nat} {m : MS} {N : List Nd} {O : List Int} {W : List Wr} {C : List Cr} {G S : List Gft} (h : Rep w B g m N O W C G S) (hy : ¬ m.owns g y) (hb : But y w w') : Rep w' B g m N O W C G S :=
  ⟨h.low, hb.row (fun e => hy (.inl e.symm)) h.blk, h.nodes.same fun k hk => hb.block k (h.nodes.low hk).2 (fun e => hy (.inr (.inl (e ▸ hk)))), h.roots.same fun k hk => hb.block k (h.roots.low hk).2 (fun e => hy (.inr (.inr (.inl (e ▸ hk))))), h.works.same fun k hk => hb.block k (h.works.low hk).2 (fun e => hy (.inr (.inr (.inr (.inl (e ▸ hk)))))), h.choices.same fun k hk => hb.block k (h.choices.low hk).2 (fun e => hy (.inr (.inr (.inr (.inr (.inl (e ▸ hk))))))), h.given.same fun k hk => hb.block k (h.given.low hk).2 (fun e => hy (.inr (.inr (.inr (.inr (.inr (.inl (e ▸ hk)))))))), h.said.same fun k hk => hb.block k (h.said.low hk).2 (fun e => hy (.inr (.inr (.inr (.inr (.inr (.inr (e ▸ hk)))))))), h.apart, Nat.le_trans h.base hb.size⟩
theorem Rep.fresh {w : World} {B g y : Nat} {m : MS} {N : List Nd} {O : List Int} {W : List Wr} {C : List Cr} {G S : List Gft} (h : Rep w B g m N O W C G S) (hy : w.heap.size ≤ y) : ¬ m.owns g y := by
  have := h.lt
  rintro (x | x | x | x | x | x | x)
  · omega
  · have := (h.nodes.low x).2; omega
  · have := (h.roots.low x).2; omega
  · have := (h.works.low x).2; omega
  · have := (h.choices.low x).2; omega
  · have := (h.given.low x).2; omega
  · have := (h.said.low x).2; omega
/-- The new node's box, and all that stands beside it. -/
def Boxed (rn : ByteArray → Int) (T : PT) (w : World) (B g : Nat) (m m1 : MS) (N : List Nd) (O : List Int) (W : List Wr) (C : List Cr) (G S : List Gft) (z y : Nat) (nm : ByteArray) (ru : Int) (wx : World) : Prop :=
  wx.heap[y]? = some (.cells #[.int .i64 T.k, .string T.t, .int .i64 T.n, .string nm, .int .i64 ru, .int .i64 (N.length : Int), .int .i64 ((N.length : Int) + (T.len : Int)), .pointer none, .int .i64 0, .int .i64 (-1)] 71 (0, 0)) ∧ Rep wx B g m1 (N ++ List.replicate T.len nd0) O W C G S ∧ Fr g m m1 w wx ∧
  wx.heap[z]? = some (.cells #[.int .i64 T.k, .string T.t, .int .i64 T.n, .string T.nm, .slice T.xa T.len T.cap] 24 (0, 0)) ∧ ((T.k = 21 ∨ T.k = 22 ∨ T.k = 23) → nm = T.nm) ∧ (T.k = 24 → ru = rn T.nm)

def FillSaysG (rn : ByteArray → Int) (T : PT) : Prop := ∀ (Wd w : World) (B g : Nat) (m : MS) (N : List Nd) (O : List Int) (W : List Wr) (C : List Cr) (G S : List Gft) (a : Nat), T.In Wd → Below Wd.heap.size Wd w → Wd.heap.size ≤ B → Rep w B g m N O W C G S → a < N.length → N.length + T.cnt ≤ 900000 → NZ T → RN rn m.rv Wd →
  Calls Tryd.prog 28 #[.pointer (some ⟨g, 0, none⟩), .int .i64 (a : Int), pv T] w fun e w' => FillPost rn T w B g m N O W C G S a e w'

set_option maxRecDepth 100000 in
set_option maxHeartbeats 4000000 in
theorem fill_stepG (rn : ByteArray → Int) (T : PT) (ih : ∀ i, i < T.len → FillSaysG rn (T.kid i)) : FillSaysG rn T := by
  intro Wd w B g m N O W C G S a hT hbel hWB h ha hcn hNZ hRN
  have hBare := And.intro hNZ hRN
  clear hNZ hRN
  unfold pv
  have hgl := h.lt
  have hgz : ¬ g = w.heap.size := by omega
  have hzg : ¬ w.heap.size = g := by omega
  have hlc := T.len_lt
  obtain ⟨na, nc, hnv, -, -⟩ := h.nodes.len
  have c2 := h.c2
  rw [hnv] at c2
  have HR := hide h
  have HI := hide (And.intro ih (And.intro hT (And.intro hbel hBare)))
  clear h ih hT hbel hBare
  go_enter Tryd.func28, Tryd.ntmps28
  go_wp2_with fail
  obtain ⟨w0, hw0⟩ : ∃ w0, w0 = w.alloc (.cells #[.int .i64 T.k, .string T.t, .int .i64 T.n, .string T.nm, .slice T.xa T.len T.cap] 24) := ⟨_, rfl⟩
  rw [← hw0]
  have hb0 : Below w.heap.size w w0 := by rw [hw0]; exact (Below.refl _ _).alloc (Nat.le_refl _) _
  have hbox : w0.heap[w.heap.size]? = some (.cells #[.int .i64 T.k, .string T.t, .int .i64 T.n, .string T.nm, .slice T.xa T.len T.cap] 24 (0, 0)) := by rw [hw0]; exact at_new rfl
  obtain ⟨z, hz⟩ : ∃ z, z = w.heap.size := ⟨_, rfl⟩
  rw [← hz] at hbox hgz hzg ⊢
  have p4 : w0.cell? ⟨z, 4, none⟩ = some (.slice T.xa T.len T.cap) := by rw [cell_of_row _ _ _ _ _ _ hbox]; rfl
  have c2 := cell_later hb0 c2
  have HR0 := hide ((unhide HR).later hb0)
  have HB0 := hide hb0
  have HBX := hide hbox
  have hc2 : w0.cell? ⟨g, 2, none⟩ = some m.nv := (unhide HR0).c2
  generalize hnv2 : m.nv = nv at hc2
  have HZ := hide hz
  clear hw0 hb0 hbox hz c2 hnv
  obtain ⟨S0, hS0⟩ : ∃ S0 : World → Prop, S0 = fun w' => w'.cell? ⟨g, 2, none⟩ = some nv ∧ w'.cell? ⟨z, 4, none⟩ = some (.slice T.xa T.len T.cap) := ⟨_, rfl⟩
  have HS0 := hide hS0
  have hS : S0 w0.drew := by rw [hS0]; exact ⟨hc2, p4⟩
  clear hS0
  refine startE (by kernel_rfl) 11 S0 ⟨by kernel_rfl, by kernel_rfl, by kernel_rfl, rfl⟩ ?_
  intro F
  refine takeE F (i := 0) (oi := _) (v := ?v0) rfl (by kernel_rfl) (by kernel_rfl) (by rfl) (fun _ _ _ h => h) hS (Or.inl ⟨by rfl, ?y0⟩) ?r0
  case y0 => (intro w hSw; rw [unhide HS0] at hSw; (try dsimp only at hSw); go_split_ands; (go_simp <;> (try with_reducible rfl)))
  (try go_frame)
  refine takeE F (i := 1) (oi := _) (v := ?v1) rfl (by kernel_rfl) (by kernel_rfl) (by rfl) (fun _ _ _ h => h) hS (Or.inl ⟨by rfl, ?y1⟩) ?r1
  case y1 => (intro w hSw; rw [unhide HS0] at hSw; (try dsimp only at hSw); go_split_ands; (go_simp <;> (try with_reducible rfl)))
  (try go_frame)
  refine takeE F (i := 2) (oi := _) (v := ?v2) rfl (by kernel_rfl) (by kernel_rfl) (by rfl) (fun _ _ _ h => h) hS (Or.inl ⟨by rfl, ?y2⟩) ?r2
  case y2 => (intro w hSw; rw [unhide HS0] at hSw; (try dsimp only at hSw); go_split_ands; (go_simp <;> (try with_reducible rfl)))
  (try go_frame)
  refine takeE F (i := 3) (oi := _) (v := ?v3) rfl (by kernel_rfl) (by kernel_rfl) (by rfl) (fun _ _ _ h => h) hS (Or.inl ⟨by rfl, ?y3⟩) ?r3
  case y3 => (intro w hSw; rw [unhide HS0] at hSw; (try dsimp only at hSw); go_split_ands; (go_simp <;> (try with_reducible rfl)))
  (try go_frame)
  refine takeE F (i := 4) (oi := _) (v := ?v4) rfl (by kernel_rfl) (by kernel_rfl) (by rfl) (fun _ _ _ h => h) hS (Or.inl ⟨by rfl, ?y4⟩) ?r4
  case y4 => (intro w hSw; rw [unhide HS0] at hSw; (try dsimp only at hSw); go_split_ands; (go_simp <;> (try with_reducible rfl)))
  (try go_frame)
  refine takeE F (i := 5) (oi := _) (v := ?v5) rfl (by kernel_rfl) (by kernel_rfl) (by rfl) (fun _ _ _ h => h) hS (Or.inl ⟨by rfl, ?y5⟩) ?r5
  case y5 => (intro w hSw; rw [unhide HS0] at hSw; (try dsimp only at hSw); go_split_ands; (go_simp <;> (try with_reducible rfl)))
  (try go_frame)
  refine takeE F (i := 6) (oi := _) (v := ?v6) rfl (by kernel_rfl) (by kernel_rfl) (by rfl) (fun _ _ _ h => h) hS (Or.inl ⟨by rfl, ?y6⟩) ?r6
  case y6 => (intro w hSw; rw [unhide HS0] at hSw; (try dsimp only at hSw); go_split_ands; (go_simp <;> (try with_reducible rfl)))
  (try go_frame)
  refine takeE F (i := 7) (oi := _) (v := ?v7) rfl (by kernel_rfl) (by kernel_rfl) (by rfl) (fun _ _ _ h => h) hS (Or.inl ⟨by rfl, ?y7⟩) ?r7
  case y7 => (intro w hSw; rw [unhide HS0] at hSw; (try dsimp only at hSw); go_split_ands; (go_simp <;> (try with_reducible rfl)))
  (try go_frame)
  refine stepE (i := 8) (by kernel_rfl) rfl (by rfl) (fun K hK => ?_)
  have hbel := (Below.refl w0.heap.size w0).drew
  have hRow : Row w0.drew B 71 10 ndV nv N := (show Row w0 B 71 10 ndV nv N from by rw [← hnv2]; exact (unhide HR0).nodes).later hbel
  have hne : some g ≠ nv.ownBlock := by rw [← hnv2]; exact (unhide HR0).nodes.neBlk (unhide HR0).blk (by decide)
  have hnez : some z ≠ nv.ownBlock := by rw [← hnv2]; exact (unhide HR0).nodes.neBlk (unhide HBX) (by decide)
  refine step_zeros rfl (.tmp 19) (.tmp 22) rfl hRow (Nat.le_trans (unhide HR0).base hbel.size) T.len (by simp [Act.eval]) (by simp [Act.eval]) (by omega) (by omega) ?_
  intro v' w9 hr9 hg9 hv9
  have hNl : (N ++ List.replicate T.len nd0).length = N.length + T.len := by simp
  obtain ⟨gn, gcap, hv', hcl, -⟩ := hr9.form (by intro e; rw [e] at hNl; simp at hNl; omega)
  rw [hNl] at hv' hcl
  subst hv'
  have d2 : w9.cell? ⟨g, 2, none⟩ = some nv := hg9.cell (cell_later hbel hc2) hne
  have hbox9 : w9.heap[z]? = some (.cells #[.int .i64 T.k, .string T.t, .int .i64 T.n, .string T.nm, .slice T.xa T.len T.cap] 24 (0, 0)) := grown_blk (row_below (unhide HBX) hbel) (fun j hj => hRow.type hj) (by decide) hg9
  have d4 : w9.cell? ⟨z, 4, none⟩ = some (.slice T.xa T.len T.cap) := by rw [cell_of_row _ _ _ _ _ _ hbox9]; rfl
  have e2 : w9.frozen? ⟨g, 2, none⟩ = false := frozen_of_row w9 g 2 _ _ (grown_blk (row_below (unhide HR0).blk hbel) (fun j hj => hRow.type hj) (by decide) hg9)
  have hS : S0 w9 := by rw [unhide HS0]; exact ⟨d2, d4⟩
  have H9 := hide (And.intro hr9 (And.intro hg9 (And.intro hbel (And.intro hv9 hbox9))))
  refine hK _ _ hS ?_
  clear hK K hr9 hg9 hbel hv9 hRow hbox9 hne hnez hc2 p4
  (try go_frame)
  refine takeE F (i := 9) (oi := _) (v := ?v9) rfl (by kernel_rfl) (by kernel_rfl) (by rfl) (fun _ _ _ h => h) hS (Or.inl ⟨by rfl, ?y9⟩) ?r9
  case y9 => (intro w hSw; rw [unhide HS0] at hSw; (try dsimp only at hSw); go_split_ands; (go_simp <;> (try with_reducible rfl)))
  (try go_frame)
  refine takeE F (i := 10) (oi := _) (v := ?v10) rfl (by kernel_rfl) (by kernel_rfl) (by rfl) (fun _ _ _ h => h) hS (Or.inl ⟨by rfl, ?y10⟩) ?r10
  case y10 => (intro w hSw; rw [unhide HS0] at hSw; (try dsimp only at hSw); go_split_ands; (go_simp <;> (try with_reducible rfl)))
  (try go_frame)
  refine lastE (by kernel_rfl) rfl (by kernel_rfl) (fun K hK => ?_)
  go_simp
  refine hK _ _ ?_
  clear hK K hS F HS0
  obtain ⟨hr9, hg9, hbel, hv9, hbox9⟩ := unhide H9
  rw [← hnv2] at hg9 hv9
  obtain ⟨m1, hm1⟩ : ∃ m1 : MS, m1 = { m with nv := .slice (some ⟨gn, 0, none⟩) (N.length + T.len) gcap } := ⟨_, rfl⟩
  obtain ⟨w2, hw2⟩ : ∃ w2, w2 = w9.setCell ⟨g, 2, none⟩ (.slice (some ⟨gn, 0, none⟩) (N.length + T.len) gcap) := ⟨_, rfl⟩
  rw [← hw2]
  have r2 : Rep w2 B g m1 (N ++ List.replicate T.len nd0) O W C G S := by rw [hw2, hm1]; exact ((unhide HR0).later hbel).grownN hg9 hr9
  have f2 : Fr g m m1 w w2 := by rw [hw2, hm1]; exact (Fr.later (unhide HB0)).trans ((Fr.later hbel).trans (Fr.growN hg9 hv9))
  have hbox2 : w2.heap[z]? = some (.cells #[.int .i64 T.k, .string T.t, .int .i64 T.n, .string T.nm, .slice T.xa T.len T.cap] 24 (0, 0)) := by rw [hw2]; exact (heap_setCell_other w9 ⟨g, 2, none⟩ z _ hzg).trans hbox9
  have c2 : w2.cell? ⟨g, 2, none⟩ = some (.slice (some ⟨gn, 0, none⟩) (N.length + T.len) gcap) := by have := r2.c2; rw [hm1] at this; exact this
  have p0 : w2.cell? ⟨z, 0, none⟩ = some (.int .i64 T.k) := by rw [cell_of_row _ _ _ _ _ _ hbox2]; rfl
  have p1 : w2.cell? ⟨z, 1, none⟩ = some (.string T.t) := by rw [cell_of_row _ _ _ _ _ _ hbox2]; rfl
  have p2 : w2.cell? ⟨z, 2, none⟩ = some (.int .i64 T.n) := by rw [cell_of_row _ _ _ _ _ _ hbox2]; rfl
  have p4 : w2.cell? ⟨z, 4, none⟩ = some (.slice T.xa T.len T.cap) := by rw [cell_of_row _ _ _ _ _ _ hbox2]; rfl
  have hgl2 := r2.lt
  have hzl2 : z < w2.heap.size := (Array.getElem?_eq_some_iff.1 hbox2).1
  have hgz2 : ¬ g = w2.heap.size := by omega
  have hzz2 : ¬ z = w2.heap.size := by omega
  have hnl2 : gn < w2.heap.size := (r2.nodes.low (k := gn) (by rw [hm1]; rfl)).2
  have hnz2 : ¬ gn = w2.heap.size := by omega
  have HR2 := hide r2
  have HF2 := hide f2
  have HBX2 := hide hbox2
  have HM := hide hm1
  clear r2 f2 hbox2 hm1 hw2 hr9 hg9 hbel hv9 hbox9 d2 d4 e2 H9 HR0 HB0 HBX hnv2 hgl hgz
  have hzle : w.heap.size ≤ z := Nat.le_of_eq (unhide HZ).symm
  have hwsz : w.heap.size ≤ w2.heap.size := (unhide HF2).size
  go_wp2_with fail
  go_region
  obtain ⟨w3, hw3⟩ : ∃ w3, w3 = (w2.alloc (.cells #[.int .i64 T.k, .string T.t, .int .i64 T.n, .string ⟨#[]⟩, .int .i64 0, .int .i64 (N.length : Int), .int .i64 ((N.length : Int) + (T.len : Int)), .pointer none, .int .i64 0, .int .i64 (-1)] 71)).drew := ⟨_, rfl⟩
  rw [← hw3]
  have hb3 : Below w2.heap.size w2 w3 := by rw [hw3]; exact ((Below.refl _ _).alloc (Nat.le_refl _) _).drew
  have hboxn : w3.heap[w2.heap.size]? = some (.cells #[.int .i64 T.k, .string T.t, .int .i64 T.n, .string ⟨#[]⟩, .int .i64 0, .int .i64 (N.length : Int), .int .i64 ((N.length : Int) + (T.len : Int)), .pointer none, .int .i64 0, .int .i64 (-1)] 71 (0, 0)) := by rw [hw3]; exact at_new rfl
  have hfree : ¬ m1.owns g w2.heap.size := (unhide HR2).fresh (Nat.le_refl _)
  obtain ⟨y, hy⟩ : ∃ y, y = w2.heap.size := ⟨_, rfl⟩
  rw [← hy] at hboxn hgz2 hzz2 hnz2 hfree ⊢
  have hyw : w.heap.size ≤ y := by omega
  have r3 := (unhide HR2).later hb3
  have f3 := (unhide HF2).trans (Fr.later hb3)
  have hbx3 := row_below (unhide HBX2) hb3
  have hboxed : ∀ (wx : World) (nm : ByteArray) (ru : Int), But y w3 wx → wx.heap[y]? = some (.cells #[.int .i64 T.k, .string T.t, .int .i64 T.n, .string nm, .int .i64 ru, .int .i64 (N.length : Int), .int .i64 ((N.length : Int) + (T.len : Int)), .pointer none, .int .i64 0, .int .i64 (-1)] 71 (0, 0)) → ((T.k = 21 ∨ T.k = 22 ∨ T.k = 23) → nm = T.nm) → (T.k = 24 → ru = rn T.nm) → Boxed rn T w B g m m1 N O W C G S z y nm ru wx := fun wx nm ru hb h1 h2 h3 =>
    ⟨h1, r3.butFree hfree hb, ⟨hb.os.trans f3.os, hb.tape.trans f3.tape, hb.output.trans f3.output, Nat.le_trans f3.size hb.size, fun k hk hn => (hb.block k (Nat.lt_of_lt_of_le hk f3.size) (by omega)).trans (f3.block k hk hn), f3.own⟩, hb.row hzz2 hbx3, h2, h3⟩
  have p0 : w3.cell? ⟨z, 0, none⟩ = some (.int .i64 T.k) := by rw [cell_of_row _ _ _ _ _ _ hbx3]; rfl
  have p3 : w3.cell? ⟨z, 3, none⟩ = some (.string T.nm) := by rw [cell_of_row _ _ _ _ _ _ hbx3]; rfl
  have p4 : w3.cell? ⟨z, 4, none⟩ = some (.slice T.xa T.len T.cap) := by rw [cell_of_row _ _ _ _ _ _ hbx3]; rfl
  have hrv : m1.rv = m.rv := by rw [unhide HM]
  have c1 : w3.cell? ⟨g, 1, none⟩ = some m.rv := by have := r3.c1; rw [hrv] at this; exact this
  have hwd : Below Wd.heap.size Wd w3 := by
    have h1 := (Fr.below (unhide HR) f3).mono hWB
    exact ((unhide HI).2.2.1).trans h1
  have HBX := hide hboxed
  have HBN := hide hboxn
  have HWD := hide hwd
  clear hboxed hrv hwd r3 f3 hbx3 p1 p2 c2 hy hw3 hb3 HR2 HF2 HBX2 hgl2 hzl2 hnl2 hfree
  go_upto_block 0 with fail
  go_cut [] from 41 to 58 (fun wx => ∃ (nm : ByteArray) (ru : Int), Boxed rn T w B g m m1 N O W C G S z y nm ru wx)
  case first =>
    have y3 : w3.cell? ⟨y, 3, none⟩ = some (.string ⟨#[]⟩) := by rw [cell_of_row _ _ _ _ _ _ (unhide HBN)]; rfl
    have y4 : w3.cell? ⟨y, 4, none⟩ = some (.int .i64 0) := by rw [cell_of_row _ _ _ _ _ _ (unhide HBN)]; rfl
    obtain ⟨hNZ, hRN⟩ := (unhide HI).2.2.2
    have hnm := (nz_here hNZ).2
    have HCl := hide (fun q => clone_any T.nm w3 (hnm q))
    have HRu := hide (fun q W (h : Below w3.heap.size w3 W) => hRN W ((unhide HWD).trans (h.mono (unhide HWD).size)) T.nm (hnm q))
    clear hNZ hRN
    rcases (show T.k = 21 ∨ T.k = 22 ∨ T.k = 23 ∨ T.k = 24 ∨ (T.k ≠ 21 ∧ T.k ≠ 22 ∧ T.k ≠ 23 ∧ T.k ≠ 24) by omega) with q | q | q | q | ⟨q1, q2, q3, q4⟩
    · have HQ := hide q
      have b21 : (T.k == 21) = true := by rw [beq_iff_eq]; exact q
      have b22 : (T.k == 22) = false := by rw [beq_eq_false_iff_ne]; omega
      have b23 : (T.k == 23) = false := by rw [beq_eq_false_iff_ne]; omega
      have b24 : (T.k == 24) = false := by rw [beq_eq_false_iff_ne]; omega
      clear q
      go_wp2_with fail
      refine (unhide HCl (by have := unhide HQ; omega)).mono ?_
      rintro e w4 ⟨rfl, hb4⟩
      have y3 := cell_later hb4 y3
      have hrow4 := row_below (unhide HBN) hb4
      have f3 : w4.frozen? ⟨y, 3, none⟩ = false := frozen_of_row w4 y 3 _ _ hrow4
      have H4 := hide (And.intro hb4 hrow4)
      clear hb4 hrow4
      go_wp2_with fail
      go_meet
      exact ⟨T.nm, 0, unhide HBX _ _ _ ((But.of_below (unhide H4).1).trans ((But.refl y w4).setCell 3 _)) (heap_setCell_same w4 y 3 _ _ (.string T.nm) (unhide H4).2) (fun _ => rfl) (fun z => by have := unhide HQ; omega)⟩
    · have HQ := hide q
      have b21 : (T.k == 21) = false := by rw [beq_eq_false_iff_ne]; omega
      have b22 : (T.k == 22) = true := by rw [beq_iff_eq]; exact q
      have b23 : (T.k == 23) = false := by rw [beq_eq_false_iff_ne]; omega
      have b24 : (T.k == 24) = false := by rw [beq_eq_false_iff_ne]; omega
      clear q
      go_wp2_with fail
      refine (unhide HCl (by have := unhide HQ; omega)).mono ?_
      rintro e w4 ⟨rfl, hb4⟩
      have y3 := cell_later hb4 y3
      have hrow4 := row_below (unhide HBN) hb4
      have f3 : w4.frozen? ⟨y, 3, none⟩ = false := frozen_of_row w4 y 3 _ _ hrow4
      have H4 := hide (And.intro hb4 hrow4)
      clear hb4 hrow4
      go_wp2_with fail
      go_meet
      exact ⟨T.nm, 0, unhide HBX _ _ _ ((But.of_below (unhide H4).1).trans ((But.refl y w4).setCell 3 _)) (heap_setCell_same w4 y 3 _ _ (.string T.nm) (unhide H4).2) (fun _ => rfl) (fun z => by have := unhide HQ; omega)⟩
    · have HQ := hide q
      have b21 : (T.k == 21) = false := by rw [beq_eq_false_iff_ne]; omega
      have b22 : (T.k == 22) = false := by rw [beq_eq_false_iff_ne]; omega
      have b23 : (T.k == 23) = true := by rw [beq_iff_eq]; exact q
      have b24 : (T.k == 24) = false := by rw [beq_eq_false_iff_ne]; omega
      clear q
      go_wp2_with fail
      refine (unhide HCl (by have := unhide HQ; omega)).mono ?_
      rintro e w4 ⟨rfl, hb4⟩
      have y3 := cell_later hb4 y3
      have hrow4 := row_below (unhide HBN) hb4
      have f3 : w4.frozen? ⟨y, 3, none⟩ = false := frozen_of_row w4 y 3 _ _ hrow4
      have H4 := hide (And.intro hb4 hrow4)
      clear hb4 hrow4
      go_wp2_with fail
      go_meet
      exact ⟨T.nm, 0, unhide HBX _ _ _ ((But.of_below (unhide H4).1).trans ((But.refl y w4).setCell 3 _)) (heap_setCell_same w4 y 3 _ _ (.string T.nm) (unhide H4).2) (fun _ => rfl) (fun z => by have := unhide HQ; omega)⟩
    · have HQ := hide q
      have b21 : (T.k == 21) = false := by rw [beq_eq_false_iff_ne]; omega
      have b22 : (T.k == 22) = false := by rw [beq_eq_false_iff_ne]; omega
      have b23 : (T.k == 23) = false := by rw [beq_eq_false_iff_ne]; omega
      have b24 : (T.k == 24) = true := by rw [beq_iff_eq]; exact q
      have hyg : ¬ y = g := fun e => hgz2 e.symm
      have hyz : ¬ y = z := fun e => hzz2 e.symm
      clear q
      go_wp2_with fail
      go_region_held3 (fun w' => w'.cell? ⟨g, 1, none⟩ = some m.rv ∧ w'.cell? ⟨z, 3, none⟩ = some (.string T.nm)) (go_keep) (first | (go_at_call 26; refine (unhide HRu (by have := unhide HQ; omega) _ ((Below.refl _ _).drew)).mono ?_; rintro e w4 ⟨rfl, hb4⟩; have hb5 : Below w3.heap.size w3 w4 := ((Below.refl _ _).drew).trans (hb4.mono (by simp)); have c1 := cell_later hb5 c1; have p3 := cell_later hb5 p3; have y4 := cell_later hb5 y4; have hrow4 := row_below (unhide HBN) hb5; have f4 : w4.frozen? ⟨y, 4, none⟩ = false := frozen_of_row w4 y 4 _ _ hrow4; have H4 := hide (And.intro hb5 hrow4); clear hb4 hb5 hrow4))
      go_wp2_with fail
      go_meet
      exact ⟨⟨#[]⟩, rn T.nm, unhide HBX _ _ _ ((But.of_below (unhide H4).1).trans ((But.refl y w4).setCell 4 _)) (heap_setCell_same w4 y 4 _ _ (.int .i64 (rn T.nm)) (unhide H4).2) (fun z => by have := unhide HQ; omega) (fun _ => rfl)⟩
    · have HQ := hide (And.intro q1 (And.intro q2 (And.intro q3 q4)))
      have b21 : (T.k == 21) = false := by rw [beq_eq_false_iff_ne]; exact q1
      have b22 : (T.k == 22) = false := by rw [beq_eq_false_iff_ne]; exact q2
      have b23 : (T.k == 23) = false := by rw [beq_eq_false_iff_ne]; exact q3
      have b24 : (T.k == 24) = false := by rw [beq_eq_false_iff_ne]; exact q4
      clear q1 q2 q3 q4
      go_wp2_with fail
      go_meet
      exact ⟨⟨#[]⟩, 0, unhide HBX _ _ _ (But.refl y w3) (unhide HBN) (fun z => by have := unhide HQ; omega) (fun z => absurd z (unhide HQ).2.2.2)⟩
  case rest =>
    obtain ⟨nmv, ru, hboxn, r3, f3, hbx3, hnm, hru⟩ := hcut
    clear p0 p3 p4 c1 HBX HBN
    have p4 : wc.cell? ⟨z, 4, none⟩ = some (.slice T.xa T.len T.cap) := by rw [cell_of_row _ _ _ _ _ _ hbx3]; rfl
    have c2 : wc.cell? ⟨g, 2, none⟩ = some (.slice (some ⟨gn, 0, none⟩) (N.length + T.len) gcap) := by have := r3.c2; rw [unhide HM] at this; exact this
    have HNM := hide (And.intro hnm hru)
    clear hnm hru
    have hnv3 : m1.nv = .slice (some ⟨gn, 0, none⟩) (N ++ List.replicate T.len nd0).length gcap := by rw [unhide HM, hNl]
    obtain ⟨xo, hxa⟩ : ∃ xo, (N ++ List.replicate T.len nd0)[a]? = some xo := ⟨_, List.getElem?_eq_getElem (by rw [hNl]; omega)⟩
    have hia := idx_run (g := gn) (n := N.length + T.len) (cap := gcap) Tryd.underlying49 size_node (show a < N.length + T.len by omega)
    have y0 : wc.cell? ⟨y, 0, none⟩ = some (.int .i64 T.k) := by rw [cell_of_row _ _ _ _ _ _ hboxn]; rfl
    have y1 : wc.cell? ⟨y, 1, none⟩ = some (.string T.t) := by rw [cell_of_row _ _ _ _ _ _ hboxn]; rfl
    have y2 : wc.cell? ⟨y, 2, none⟩ = some (.int .i64 T.n) := by rw [cell_of_row _ _ _ _ _ _ hboxn]; rfl
    have y3 : wc.cell? ⟨y, 3, none⟩ = some (.string nmv) := by rw [cell_of_row _ _ _ _ _ _ hboxn]; rfl
    have y4 : wc.cell? ⟨y, 4, none⟩ = some (.int .i64 ru) := by rw [cell_of_row _ _ _ _ _ _ hboxn]; rfl
    have y5 : wc.cell? ⟨y, 5, none⟩ = some (.int .i64 (N.length : Int)) := by rw [cell_of_row _ _ _ _ _ _ hboxn]; rfl
    have y6 : wc.cell? ⟨y, 6, none⟩ = some (.int .i64 ((N.length : Int) + (T.len : Int))) := by rw [cell_of_row _ _ _ _ _ _ hboxn]; rfl
    have y7 : wc.cell? ⟨y, 7, none⟩ = some (.pointer none) := by rw [cell_of_row _ _ _ _ _ _ hboxn]; rfl
    have y8 : wc.cell? ⟨y, 8, none⟩ = some (.int .i64 0) := by rw [cell_of_row _ _ _ _ _ _ hboxn]; rfl
    have y9 : wc.cell? ⟨y, 9, none⟩ = some (.int .i64 (-1)) := by rw [cell_of_row _ _ _ _ _ _ hboxn]; rfl
    have x0 : wc.cell? ⟨gn, a * 10, none⟩ = some (.int .i64 xo.k) := r3.nodes.cell ndV_len hnv3 hxa (k := 0) rfl
    have fz0 : wc.frozen? ⟨gn, a * 10, none⟩ = false := r3.nodes.frozen hnv3 _
    have x1 : wc.cell? ⟨gn, a * 10 + 1, none⟩ = some (.string xo.t) := r3.nodes.cell ndV_len hnv3 hxa (k := 1) rfl
    have fz1 : wc.frozen? ⟨gn, a * 10 + 1, none⟩ = false := r3.nodes.frozen hnv3 _
    have x2 : wc.cell? ⟨gn, a * 10 + 2, none⟩ = some (.int .i64 xo.n) := r3.nodes.cell ndV_len hnv3 hxa (k := 2) rfl
    have fz2 : wc.frozen? ⟨gn, a * 10 + 2, none⟩ = false := r3.nodes.frozen hnv3 _
    have x3 : wc.cell? ⟨gn, a * 10 + 3, none⟩ = some (.string xo.nm) := r3.nodes.cell ndV_len hnv3 hxa (k := 3) rfl
    have fz3 : wc.frozen? ⟨gn, a * 10 + 3, none⟩ = false := r3.nodes.frozen hnv3 _
    have x4 : wc.cell? ⟨gn, a * 10 + 4, none⟩ = some (.int .i64 xo.ru) := r3.nodes.cell ndV_len hnv3 hxa (k := 4) rfl
    have fz4 : wc.frozen? ⟨gn, a * 10 + 4, none⟩ = false := r3.nodes.frozen hnv3 _
    have x5 : wc.cell? ⟨gn, a * 10 + 5, none⟩ = some (.int .i64 (xo.fi : Int)) := r3.nodes.cell ndV_len hnv3 hxa (k := 5) rfl
    have fz5 : wc.frozen? ⟨gn, a * 10 + 5, none⟩ = false := r3.nodes.frozen hnv3 _
    have x6 : wc.cell? ⟨gn, a * 10 + 6, none⟩ = some (.int .i64 (xo.en : Int)) := r3.nodes.cell ndV_len hnv3 hxa (k := 6) rfl
    have fz6 : wc.frozen? ⟨gn, a * 10 + 6, none⟩ = false := r3.nodes.frozen hnv3 _
    have x7 : wc.cell? ⟨gn, a * 10 + 7, none⟩ = some (.pointer (xo.st.map fun b => ⟨b, 0, none⟩)) := r3.nodes.cell ndV_len hnv3 hxa (k := 7) rfl
    have fz7 : wc.frozen? ⟨gn, a * 10 + 7, none⟩ = false := r3.nodes.frozen hnv3 _
    have x8 : wc.cell? ⟨gn, a * 10 + 8, none⟩ = some (.int .i64 xo.fr) := r3.nodes.cell ndV_len hnv3 hxa (k := 8) rfl
    have fz8 : wc.frozen? ⟨gn, a * 10 + 8, none⟩ = false := r3.nodes.frozen hnv3 _
    have x9 : wc.cell? ⟨gn, a * 10 + 9, none⟩ = some (.int .i64 xo.to) := r3.nodes.cell ndV_len hnv3 hxa (k := 9) rfl
    have fz9 : wc.frozen? ⟨gn, a * 10 + 9, none⟩ = false := r3.nodes.frozen hnv3 _
    have hng : ¬ gn = g := fun e => r3.nodes.neBlk r3.blk (by decide) (by rw [hnv3, e]; rfl)
    have hgn : ¬ g = gn := fun e => hng e.symm
    have hyn : ¬ y = gn := fun e => hnz2 e.symm
    have HR3 := hide r3
    have HF3 := hide f3
    have HX := hide (And.intro hxa hnv3)
    have HBX3 := hide hbx3
    clear hboxn r3 f3 hbx3 hnv3 hxa
    go_wp2_with fail
    go_region
    obtain ⟨w4, hw4⟩ : ∃ w4, w4 = (((((((((wc.setCell ⟨gn, a * 10, none⟩ (.int .i64 T.k)).setCell ⟨gn, a * 10 + 1, none⟩ (.string T.t)).setCell ⟨gn, a * 10 + 2, none⟩ (.int .i64 T.n)).setCell ⟨gn, a * 10 + 3, none⟩ (.string nmv)).setCell ⟨gn, a * 10 + 4, none⟩ (.int .i64 ru)).setCell ⟨gn, a * 10 + 5, none⟩ (.int .i64 (N.length : Int))).setCell ⟨gn, a * 10 + 6, none⟩ (.int .i64 ((N.length : Int) + (T.len : Int)))).setCell ⟨gn, a * 10 + 7, none⟩ (.pointer none)).setCell ⟨gn, a * 10 + 8, none⟩ (.int .i64 0)).setCell ⟨gn, a * 10 + 9, none⟩ (.int .i64 (-1)) := ⟨_, rfl⟩
    obtain ⟨w5, hw5⟩ : ∃ w5, w5 = w4.drew := ⟨_, rfl⟩
    rw [← hw4, ← hw5]
    obtain ⟨xn, hxn⟩ : ∃ xn : Nd, xn = ⟨T.k, T.t, T.n, nmv, ru, N.length, N.length + T.len, none, 0, -1⟩ := ⟨_, rfl⟩
    obtain ⟨r4, f4⟩ := RepNput (unhide HR3) (unhide HX).2 (unhide HX).1 ⟨T.k, T.t, T.n, nmv, ru, N.length, N.length + T.len, none, 0, -1⟩ w4 hw4
    rw [← hxn] at r4
    have hb5 : Below w4.heap.size w4 w5 := by rw [hw5]; exact (Below.refl _ _).drew
    have r5 := r4.later hb5
    have f5 := ((unhide HF3).trans f4).trans (Fr.later hb5)
    have hbx : w5.heap[z]? = _ := row_below (f4.box (unhide HR3) (unhide HBX3)) hb5
    have p4 : w5.cell? ⟨z, 4, none⟩ = some (.slice T.xa T.len T.cap) := by rw [cell_of_row _ _ _ _ _ _ hbx]; rfl
    have haN : a < (N ++ List.replicate T.len nd0).length := by rw [hNl]; omega
    have HL0 := hide (show ∃ (k : Nat) (v : Value) (Nk : List Nd), k ≤ T.len ∧ Value.int .i64 0 = .int .i64 (k : Int) ∧ Rep w5 B g { m with nv := v } Nk O W C G S ∧ Fr g m { m with nv := v } w w5 ∧ Nk[a]? = some xn ∧ (∀ j, j < k → Lies rn Nk (T.kid j) (N.length + j)) ∧ (∀ j, k ≤ j → j < T.len → Nk[N.length + j]? = some nd0) ∧ KeptN N a Nk ∧ Nk.length + k = N.length + T.len + sumTo (fun i => (T.kid i).cnt) k from by
      rw [unhide HM] at r5 f5
      refine ⟨0, _, _, Nat.zero_le _, rfl, r5, f5, List.getElem?_set_self haN, fun j hj => (by omega), fun j _ hj => ?_, ⟨fun i hi hne => ?_, fun hfr => (hfr.zeros T.len).set (by rw [hxn]) (by rw [hxn]; show (-1 : Int) < 0; decide)⟩, ?_⟩
      · rw [List.getElem?_set_ne (by omega), List.getElem?_append_right (by omega), List.getElem?_replicate, if_pos (by omega)]
      · rw [List.getElem?_set_ne (by omega), List.getElem?_append_left hi]
      · rw [List.length_set, hNl]; rfl)
    have HXN := hide hxn
    clear hw4 hw5 hxn r4 f4 hb5 r5 f5 hbx HR3 HF3 HX HBX3 hia haN c2
    clear y0 y1 y2 y3 y4 y5 y6 y7 y8 y9 x0 x1 x2 x3 x4 x5 x6 x7 x8 x9 fz0 fz1 fz2 fz3 fz4 fz5 fz6 fz7 fz8 fz9 hng hgn hyn hgz2 hzz2 hnz2 hcl
    go_wp2_with fail
    go_loopw [69] (fun i wr => ∃ (k : Nat) (v : Value) (Nk : List Nd), k ≤ T.len ∧ i = .int .i64 (k : Int) ∧ Rep wr B g { m with nv := v } Nk O W C G S ∧ Fr g m { m with nv := v } w wr ∧ Nk[a]? = some xn ∧ (∀ j, j < k → Lies rn Nk (T.kid j) (N.length + j)) ∧ (∀ j, k ≤ j → j < T.len → Nk[N.length + j]? = some nd0) ∧ KeptN N a Nk ∧ Nk.length + k = N.length + T.len + sumTo (fun i => (T.kid i).cnt) k) (fun i _ => T.len - (intOf i).toNat)
    case atStart => exact unhide HL0
    case round =>
      obtain ⟨k, v, Nk, hk, rfl, rk, fk, hxa, hlk, hnk, hok, hck⟩ := hrel
      rcases Nat.lt_or_ge k T.len with hkt | hkt
      · obtain ⟨ih, hT, hbel, hBare⟩ := unhide HI
        have hbw : Below Wd.heap.size Wd wr := hbel.trans ((Fr.below (unhide HR) fk).mono hWB)
        have hia := kid_at hT hkt
        obtain ⟨q0, q1, q2, q3, q4⟩ := hT.cells hkt
        have q0 := cell_later hbw q0
        have q1 := cell_later hbw q1
        have q2 := cell_later hbw q2
        have q3 := cell_later hbw q3
        have q4 := cell_later hbw q4
        unfold PT.kv at q4
        have hs1 := sumTo_gap (fun i => (T.kid i).cnt) (fun i => (T.kid i).cnt_pos) (show k + 1 ≤ T.len from hkt)
        simp only [sumTo] at hs1
        have hce := T.cnt_eq
        have hb6 : ∀ o, Below wr.heap.size wr (wr.alloc o) := fun o => (Below.refl _ _).alloc (Nat.le_refl _) o
        have HC := hide (fun o => ih k hkt Wd (wr.alloc o) B g { m with nv := v } Nk O W C G S (N.length + k) (hT.kids hkt) (hbw.trans ((hb6 o).mono hbw.size)) hWB (rk.later (hb6 o)) (by have := (List.getElem?_eq_some_iff.1 (hnk k (Nat.le_refl _) hkt)).1; omega) (by omega) (nz_kid hBare.1 hkt) hBare.2)
        unfold pv at HC
        have HK := hide (And.intro rk (And.intro fk (And.intro hxa (And.intro hlk (And.intro hnk (And.intro hok (And.intro hck hce)))))))
        have HB6 := hide hb6
        have hkl : (k : Int) < (T.len : Int) := by omega
        clear ih hT hbel hBare hbw rk fk hxa hlk hnk hok hck hce hs1 hb6
        go_wp2_with fail
        refine (unhide HC _).mono ?_
        rintro e w6 ⟨rfl, v6, N6, r6, f6, l6, o6, n6⟩
        have H6 := hide (And.intro r6 (And.intro f6 (And.intro l6 (And.intro o6 n6))))
        clear r6 f6 l6 o6 n6 HC
        go_wp2_with fail
        go_roundw
        case rel =>
          obtain ⟨rk, fk, hxa, hlk, hnk, hok, hck, hce⟩ := unhide HK
          obtain ⟨r6, f6, l6, o6, n6⟩ := unhide H6
          have hBare := (unhide HI).2.2.2
          have hlt : ∀ {i : Nat} {x : Nd}, Nk[i]? = some x → i < Nk.length := fun h => (List.getElem?_eq_some_iff.1 h).1
          have hq := hnk k (Nat.le_refl _) hkt
          have hsame : ∀ (i : Nat) (x : Nd), Nk[i]? = some x → x.k ≠ 0 → N6[i]? = some x := fun i x hi hx => by
            rw [o6.1 i (hlt hi) (fun e => by subst e; rw [hq] at hi; injection hi with hi; exact hx (by rw [← hi]; rfl))]
            exact hi
          refine ⟨k + 1, v6, N6, by omega, by go_num, r6, (fk.trans (Fr.later (unhide HB6 _))).trans f6, ?_, fun j hj => ?_, fun j h1 h2 => ?_, ⟨fun i hi hne => ?_, fun hfr => o6.2 (hok.2 hfr)⟩, ?_⟩
          · rw [o6.1 a (hlt hxa) (by omega)]; exact hxa
          · rcases Nat.lt_or_ge j k with h1 | h1
            · exact nz_mono hsame (nz_kid hBare.1 (by omega)) (hlk j h1)
            · rw [show j = k by omega]; exact l6
          · have := hnk j (by omega) h2
            rw [o6.1 _ (hlt this) (by omega)]; exact this
          · have h1 := hlt hxa
            have h2 := hlt hq
            rw [o6.1 i (by omega) (by omega)]; exact hok.1 i hi hne
          · simp only [sumTo]; omega
        case measure => simp [intOf]; omega
      · have hke : k = T.len := by omega
        have HK := hide (And.intro rk (And.intro fk (And.intro hxa (And.intro hlk (And.intro hok hck)))))
        have hkl : ¬ (k : Int) < (T.len : Int) := by omega
        clear rk fk hxa hlk hnk hok hck
        go_wp2_with fail
        go_end0
        obtain ⟨rk, fk, hxa, hlk, hok, hck⟩ := unhide HK
        have hce := T.cnt_eq
        rw [hke] at hlk hck
        rw [unhide HXN] at hxa
        exact ⟨rfl, v, Nk, rk, fk, lies_mk hxa rfl rfl rfl (fun z => (unhide HNM).1 z) (fun z => (unhide HNM).2 z) rfl (by show N.length + T.len ≤ _; omega) hlk, hok, by omega⟩

theorem fill_anyG (rn : ByteArray → Int) : ∀ T : PT, FillSaysG rn T := PT.ind (fill_stepG rn)
end Go.Proofs.YtkggmodabpjobaaDoor
