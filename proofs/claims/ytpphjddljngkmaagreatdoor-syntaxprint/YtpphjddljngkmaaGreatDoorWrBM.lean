/- The writer of lines: what it has written, in memory; put. The writer of lines: put. -/
import Derived.Test.YtpphjddljngkmaaGreatDoorPrintExt4M
import Derived.Test.YtpphjddljngkmaaGreatDoorQuote4M
import Derived.Test.YtpphjddljngkmaaGreatDoorPatBelowM
namespace Go.Proofs.YtpphjddljngkmaaGreatDoor
open Go.RowKit

/-- Nothing but the writer's block and its own row has changed; the new row lies there, or in what is new. -/
structure WX (z : Nat) (w w' : World) (v v' : Value) : Prop where
  os : w'.os = w.os
  tape : w'.tape = w.tape
  output : w'.output = w.output
  size : w.heap.size ≤ w'.heap.size
  block : ∀ k, k < w.heap.size → k ≠ z → some k ≠ v.ownBlock → w'.heap[k]? = w.heap[k]?
  lies : v'.ownBlock = v.ownBlock ∨ ∀ k, v'.ownBlock = some k → w.heap.size ≤ k
section
variable {z : Nat} {a b c w w' : World} {v v1 v2 v3 : Value}
theorem WX.refl (z : Nat) (w : World) (v : Value) : WX z w w v v := ⟨rfl, rfl, rfl, Nat.le_refl _, fun _ _ _ _ => rfl, .inl rfl⟩
theorem WX.trans (h : WX z a b v1 v2) (k : WX z b c v2 v3) : WX z a c v1 v3 := by
  refine ⟨k.os.trans h.os, k.tape.trans h.tape, k.output.trans h.output, Nat.le_trans h.size k.size, fun i hi h1 h2 => ?_, ?_⟩
  · refine (k.block i (Nat.lt_of_lt_of_le hi h.size) h1 fun e => ?_).trans (h.block i hi h1 h2)
    rcases h.lies with x | x
    · exact h2 (e.trans x)
    · have := x i e.symm
      omega
  · rcases k.lies with x | x
    · rcases h.lies with y | y
      · exact .inl (x.trans y)
      · exact .inr fun q hq => y q (x ▸ hq)
    · exact .inr fun q hq => Nat.le_trans h.size (x q hq)
theorem WX.of_ext (h : Ext w w' v v1) : WX z w w' v v1 := ⟨h.grown.os, h.grown.tape, h.grown.output, h.grown.size, fun k h1 _ h2 => h.grown.block k h1 h2, h.lies⟩
theorem WX.below (h : Below w.heap.size w w') : WX z w w' v v := ⟨h.os, h.tape, h.output, h.size, fun k h1 _ _ => h.block k h1, .inl rfl⟩
theorem WX.set (h : WX z a b v1 v2) (k : Nat) (u : Value) : WX z a (b.setCell ⟨z, k, none⟩ u) v1 v2 :=
  ⟨h.os, h.tape, h.output, by rw [World.size_setCell]; exact h.size, fun i h1 h2 h3 => (heap_setCell_other b ⟨z, k, none⟩ i u h2).trans (h.block i h1 h2 h3), h.lies⟩
end
theorem own_same {W W' : World} {B e size n : Nat} {v : Value} {xs : List Value} (h : W.ownsRow B e size v n xs) (hb : ∀ k, v.ownBlock = some k → W'.heap[k]? = W.heap[k]?) : W'.ownsRow B e size v n xs := by
  refine ⟨h.1, ?_⟩
  rcases h.2 with h | ⟨g, cap, cur, rfl, h1, h2, h3⟩
  · exact .inl h
  · exact .inr ⟨g, cap, cur, rfl, h1, (hb g rfl).trans h2, h3⟩
/-- The writer, in memory: what it has written; whether there is a line feed in it. -/
structure WrI (B z : Nat) (w : World) (v : Value) (o : List UInt8) (f : Bool) : Prop where
  blk : w.heap[z]? = some (.cells #[v, .bool f] 52 (0, 0))
  row : Bytes w B v o
  low : z < B
  lt : B ≤ w.heap.size
section
variable {B z : Nat} {w w' : World} {v v' : Value} {o : List UInt8} {f : Bool}
theorem WrI.c0 (h : WrI B z w v o f) : w.cell? ⟨z, 0, none⟩ = some v := cr h.blk
theorem WrI.c1 (h : WrI B z w v o f) : w.cell? ⟨z, 1, none⟩ = some (.bool f) := cr h.blk
theorem WrI.fz (h : WrI B z w v o f) (k : Nat) : w.frozen? ⟨z, k, none⟩ = false := frozen_of_row w z k _ _ h.blk
theorem WrI.nz (h : WrI B z w v o f) : some z ≠ v.ownBlock := fun e => by
  have := (World.ownsRow.lt h.row z e.symm).1
  have := h.low
  omega
theorem WrI.below (h : WrI B z w v o f) (hb : Below w.heap.size w w') : WrI B z w' v o f := ⟨row_below h.blk hb, h.row.later hb, h.low, Nat.le_trans h.lt hb.size⟩
theorem WrI.feed (h : WrI B z w v o f) (g : Bool) : WrI B z (w.setCell ⟨z, 1, none⟩ (.bool g)) v o g := by
  have hb : ∀ k, v.ownBlock = some k → (w.setCell ⟨z, 1, none⟩ (.bool g)).heap[k]? = w.heap[k]? := fun k hk => heap_setCell_other w ⟨z, 1, none⟩ k _ fun e => h.nz (by rw [hk]; exact congrArg some e.symm)
  exact ⟨heap_setCell_same w z 1 _ _ _ h.blk, own_same h.row hb, h.low, by rw [World.size_setCell]; exact h.lt⟩
theorem WrI.grow (h : WrI B z w v o f) (hE : Ext w w' v v') {o' : List UInt8} (hB : Bytes w' B v' o') : WrI B z (w'.setCell ⟨z, 0, none⟩ v') v' o' f := by
  have hz := hE.row h.nz h.blk
  have hn : ∀ k, v'.ownBlock = some k → k ≠ z := fun k hk e => by
    have := (World.ownsRow.lt hB k hk).1
    have := h.low
    omega
  have hb : ∀ k, v'.ownBlock = some k → (w'.setCell ⟨z, 0, none⟩ v').heap[k]? = w'.heap[k]? := fun k hk => heap_setCell_other w' ⟨z, 0, none⟩ k _ (hn k hk)
  exact ⟨heap_setCell_same w' z 0 _ _ _ hz, own_same hB hb, h.low, by rw [World.size_setCell]; exact Nat.le_trans h.lt hE.grown.size⟩
end
def cat (l : List ByteArray) : List UInt8 := l.flatMap fun t => t.data.toList
theorem cat_cons (t : ByteArray) (l : List ByteArray) : cat (t :: l) = t.data.toList ++ cat l := rfl
theorem cat_snoc (l : List ByteArray) (t : ByteArray) : cat (l ++ [t]) = cat l ++ t.data.toList := by unfold cat; rw [List.flatMap_append]; simp
def nl10 (l : List UInt8) : Bool := l.contains 10
theorem nl10_app (a b : List UInt8) : nl10 (a ++ b) = (nl10 a || nl10 b) := by
  unfold nl10
  rw [Bool.eq_iff_iff]
  simp
theorem index_nl : ∀ l : List UInt8, (Lib.index l [10] = -1 ∧ nl10 l = false) ∨ (0 ≤ Lib.index l [10] ∧ nl10 l = true)
  | [] => .inl ⟨rfl, rfl⟩
  | b :: l => by
    have hp : ([10] : List UInt8).isPrefixOf (b :: l) = ((10 : UInt8) == b) := by
      show ((10 : UInt8) == b && List.isPrefixOf [] l) = _
      rw [show List.isPrefixOf ([] : List UInt8) l = true from by cases l <;> rfl, Bool.and_true]
    have hc : nl10 (b :: l) = (((10 : UInt8) == b) || nl10 l) := by unfold nl10; rfl
    unfold Lib.index
    rw [hp, hc]
    by_cases q : (10 : UInt8) == b
    · rw [if_pos q, q]; exact .inr ⟨by decide, rfl⟩
    · rw [if_neg q, Bool.eq_false_iff.2 q, Bool.false_or]
      rcases index_nl l with ⟨h1, h2⟩ | ⟨h1, h2⟩
      · rw [h1, h2]; exact .inl ⟨rfl, rfl⟩
      · have : (Lib.index l [10] == -1) = false := bn
        rw [this, h2]
        exact .inr ⟨by show 0 ≤ Lib.index l [10] + 1; omega, rfl⟩
theorem cont_nl (l : List UInt8) : Lib.contains l [10] = nl10 l := by
  unfold Lib.contains
  rcases index_nl l with ⟨h1, h2⟩ | ⟨h1, h2⟩
  · rw [h1, h2]; rfl
  · rw [h2, decide_eq_true h1]
end Go.Proofs.YtpphjddljngkmaaGreatDoor

namespace Go.Proofs.YtpphjddljngkmaaGreatDoor
open Go.RowKit

theorem bytes_form {w : World} {B : Nat} {v : Value} {l : List UInt8} (h : Bytes w B v l) : ∃ a cap, v = .slice a l.length cap := by
  rcases h.2 with ⟨rfl, e⟩ | ⟨g, cap, cur, rfl, -⟩
  · exact ⟨none, 0, by rw [e]⟩
  · exact ⟨_, cap, rfl⟩
theorem cat_take {l : List ByteArray} {i : Nat} {t : ByteArray} (ht : l[i]? = some t) : cat (l.take (i + 1)) = cat (l.take i) ++ t.data.toList := by
  rw [List.take_add_one, ht]
  exact cat_snoc _ _
theorem cat_len : ∀ (l : List ByteArray), (∀ t ∈ l, t.size ≤ 200000) → (cat l).length ≤ 200000 * l.length
  | [], _ => Nat.le_refl _
  | t :: l, h => by
    have h1 := h t (by simp)
    have ih := cat_len l fun x hx => h x (List.mem_cons_of_mem _ hx)
    rw [cat_cons, List.length_append, List.length_cons]
    have : t.data.toList.length = t.size := by simp
    omega
/-- What put has written. -/
def PutI (B z : Nat) (w : World) (v : Value) (o t : List UInt8) (f : Bool) (w' : World) : Prop := ∃ v', WX z w w' v v' ∧ WrI B z w' v' (o ++ t) (f || nl10 t)
set_option maxRecDepth 100000 in
set_option maxHeartbeats 4000000 in
theorem put_any (N : NL) {B z : Nat} {v : Value} {o : List UInt8} {f : Bool} (w : World) (hW : WrI B z w v o f) (hN : N.In w) (hg : N.gb ≠ z ∧ some N.gb ≠ v.ownBlock) (hs : ∀ t ∈ N.l, t.size ≤ 200000) (hl : N.l.length ≤ 11) (ho : o.length ≤ 10000000)
    (m : Int) (hm : w.cell? ⟨2, 0, none⟩ = some (.int .i64 m)) (hmz : (2 : Nat) < z) :
    Calls Tryz.prog 42 #[.pointer (some ⟨z, 0, none⟩), N.v] w fun e w' => e = .returned (.tuple #[]) ∧ PutI B z w v o (cat N.l) f w' := by
  have HN := hide hN
  have HG := hide hg
  have HS := hide hs
  have HO := hide (And.intro ho hl)
  have hat := hN.at_
  have HLK := hide (fun (wr : World) (v' : Value) (hx : WX z w wr v v') (h : WrI B z wr v' o f ∨ True) => show wr.cell? ⟨2, 0, none⟩ = some (.int .i64 m) from by
    have hlt := World.block_lt_of_cell? _ _ hm
    have e := hx.block 2 hlt (by omega) (fun e => by
      have h1 := (World.ownsRow.lt hW.row _ e.symm).1
      have h2 := hW.low
      have : (2 : Nat) < z := hmz
      omega)
    rw [← hm]; unfold World.cell?; rw [e])
  have H0 : Hid (PutI B z w v o (cat (N.l.take 0)) f w) := hide (⟨v, WX.refl _ _ _, by
    rw [show cat (N.l.take 0) = [] from by simp [cat], List.append_nil, show nl10 [] = false from rfl, Bool.or_false]; exact hW⟩)
  obtain ⟨n, hn⟩ : ∃ n, n = N.l.length := ⟨_, rfl⟩
  have HNL := hide hn
  have hmax : n ≤ 11 := by rw [hn]; exact hl
  have HCE := hide (fun (i : Nat) (t : ByteArray) (wr : World) (v' : Value) (ht : N.l[i]? = some t) (hx : WX z w wr v v') => show wr.cell? ⟨N.gb, N.ob + i, none⟩ = some (.string t) from by
    have hc := (hN.cell i t ht).1
    have e := hx.block N.gb (World.block_lt_of_cell? _ _ hc) hg.1 hg.2
    rw [← hc]; unfold World.cell?; rw [e])
  clear hW hN hg hs ho hm hl hmz
  unfold NL.v
  rw [← hn] at hat ⊢
  clear hn
  have HNC := hide (unhide HN).cap
  generalize hxa : N.xa = xa at *
  generalize hcap : N.cap = cap at *
  clear hxa hcap
  go_enter Tryz.func42, Tryz.ntmps42
  go_wp2_with fail
  go_loopw [8] (fun u wr => ∃ i : Nat, i ≤ n ∧ u = .int .i64 (i : Int) ∧ Hid (PutI B z w v o (cat (N.l.take i)) f wr)) (fun u _ => n - (intOf u).toNat)
  case atStart => exact ⟨0, Nat.zero_le _, rfl, unhide H0⟩
  case round =>
    obtain ⟨i, hi, rfl, HI⟩ := hrel
    rcases Nat.lt_or_ge i n with hlt | hge
    · obtain ⟨t, ht⟩ : ∃ t, N.l[i]? = some t := ⟨N.l[i]'(by have := unhide HNL; omega), List.getElem?_eq_getElem _⟩
      have hxa := hat (by omega)
      subst hxa
      obtain ⟨v', hx, hwi⟩ := unhide HI
      have ct := unhide HCE i t wr v' ht hx
      have hts : t.size ≤ 200000 := unhide HS t (List.mem_of_getElem? ht)
      have hcl := cat_len (N.l.take i) fun x hx => unhide HS x (List.mem_of_mem_take hx)
      rw [List.length_take] at hcl
      have HLE : Hid ((o ++ cat (N.l.take i)).length + t.size ≤ 100000000) := hide (by rw [List.length_append]; have := (unhide HO).1; omega)
      have hix := sl_idx (g := N.gb) (o := N.ob) (cap := cap) (i := i) (n := n) Tryz.underlying31 size_strS hlt
      have HCT : Hid (Calls Tryz.prog 58 #[.string t, .string ⟨#[10]⟩] wr fun e w' => e = .returned (.bool (nl10 t.data.toList)) ∧ w' = wr) := hide (cont_nl t.data.toList ▸ Tryz.strings_Contains t ⟨#[10]⟩ m wr (by omega) (unhide HLK wr v' hx (.inr trivial)))
      have HNX : Hid (∀ w' v'', WX z wr w' v' v'' → WrI B z w' v'' ((o ++ cat (N.l.take i)) ++ t.data.toList) ((f || nl10 (cat (N.l.take i))) || nl10 t.data.toList) → PutI B z w v o (cat (N.l.take (i + 1))) f w') := hide (fun w' v'' h1 h2 => ⟨v'', hx.trans h1, by rw [cat_take ht, nl10_app, ← List.append_assoc, ← Bool.or_assoc]; exact h2⟩)
      have HWI := hide hwi
      have c1 := hwi.c1
      have c0 := hwi.c0
      have f1 := hwi.fz 1
      clear ht hcl hx hts HI H0 hwi
      generalize o ++ cat (N.l.take i) = oo at *
      generalize (f || nl10 (cat (N.l.take i))) = ff at *
      generalize nl10 t.data.toList = nt at *
      cases ff
      · go_wp2_with fail
        refine (unhide HCT).mono ?_
        rintro e wr ⟨rfl, rfl⟩
        clear HCT c0
        have c1 := (unhide HWI).c1
        have f1 := (unhide HWI).fz 1
        have HF := hide ((unhide HWI).feed nt)
        have HXF := hide ((WX.refl z wr v').set 1 (.bool nt))
        obtain ⟨xa, cp, hvf⟩ := bytes_form (unhide HWI).row
        subst hvf
        have d0 := (unhide HF).c0
        rw [Bool.false_or] at HNX
        go_wp2_with (first
          | (refine wpx_str rfl _ _ rfl B (.slice xa oo.length cp) oo t rfl rfl (by with_reducible exact (unhide HF).row) (unhide HF).lt (unhide HLE) ?_; intro v2 w2 hB2 hE2; obtain ⟨a2, c2, hv2⟩ := bytes_form hB2; obtain ⟨n2, hn2⟩ : ∃ n2, n2 = (oo ++ t.data.toList).length := ⟨_, rfl⟩; rw [← hn2] at hv2; clear hn2; subst hv2; have HG2 := hide ((unhide HF).grow hE2 hB2); have HX2 := hide (((unhide HXF).trans (WX.of_ext (z := z) hE2)).set 0 (.slice a2 n2 c2)); have k0 := cell_of_row _ z 0 _ _ _ (hE2.row (unhide HF).nz (unhide HF).blk); have k1 := frozen_of_row w2 z 0 _ _ (hE2.row (unhide HF).nz (unhide HF).blk); clear hB2 hE2)
          | fail)
        exact ⟨⟨i + 1, by omega, rfl, unhide HNX _ _ (unhide HX2) (unhide HG2)⟩, by simp [intOf]; omega⟩
      · rw [Bool.true_or] at HNX
        clear HCT c0
        have HF := hide ((unhide HWI).feed true)
        have HXF := hide ((WX.refl z wr v').set 1 (.bool true))
        obtain ⟨xa, cp, hvf⟩ := bytes_form (unhide HWI).row
        subst hvf
        have d0 := (unhide HF).c0
        go_wp2_with (first
          | (refine wpx_str rfl _ _ rfl B (.slice xa oo.length cp) oo t rfl rfl (by with_reducible exact (unhide HF).row) (unhide HF).lt (unhide HLE) ?_; intro v2 w2 hB2 hE2; obtain ⟨a2, c2, hv2⟩ := bytes_form hB2; obtain ⟨n2, hn2⟩ : ∃ n2, n2 = (oo ++ t.data.toList).length := ⟨_, rfl⟩; rw [← hn2] at hv2; clear hn2; subst hv2; have HG2 := hide ((unhide HF).grow hE2 hB2); have HX2 := hide (((unhide HXF).trans (WX.of_ext (z := z) hE2)).set 0 (.slice a2 n2 c2)); have k0 := cell_of_row _ z 0 _ _ _ (hE2.row (unhide HF).nz (unhide HF).blk); have k1 := frozen_of_row w2 z 0 _ _ (hE2.row (unhide HF).nz (unhide HF).blk); clear hB2 hE2)
          | fail)
        exact ⟨⟨i + 1, by omega, rfl, unhide HNX _ _ (unhide HX2) (unhide HG2)⟩, by simp [intOf]; omega⟩
    · obtain rfl : i = n := by omega
      have HE := hide (unhide HI)
      have HNL2 : Hid (PutI B z w v o (cat N.l) f wr) := hide (by have h := unhide HE; rw [unhide HNL, List.take_length] at h; exact h)
      clear HI HE
      go_wp2_with fail
      go_end0
      exact ⟨rfl, unhide HNL2⟩
end Go.Proofs.YtpphjddljngkmaaGreatDoor
