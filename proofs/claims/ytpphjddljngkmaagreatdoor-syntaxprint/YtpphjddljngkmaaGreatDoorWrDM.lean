/- The writer of lines: what comes of some writing; texts in quotes. The writer of lines: texts in quotes. -/
import Derived.Test.YtpphjddljngkmaaGreatDoorWrBM
import Derived.Test.YtpphjddljngkmaaGreatDoorQuote4M
import Derived.Test.YtpphjddljngkmaaGreatDoorPlDM
namespace Go.Proofs.YtpphjddljngkmaaGreatDoor
open Go.RowKit

/-- What comes of a text that is written, and is given up when the line is too long. -/
structure Gw (o t o' : List UInt8) (c : Nat) : Prop where
  same : (o ++ t).length ≤ 2000 → o' = o ++ t
  long : 2000 < (o ++ t).length → 2000 < o'.length
  most : o'.length ≤ max o.length 140000 + c
  up : o.length ≤ o'.length
theorem Gw.refl (o : List UInt8) : Gw o [] o 0 := ⟨fun _ => (List.append_nil o).symm, fun h => by simpa using h, by omega, Nat.le_refl _⟩
theorem Gw.put (o t : List UInt8) : Gw o t (o ++ t) t.length := ⟨fun _ => rfl, fun h => h, by rw [List.length_append]; omega, by rw [List.length_append]; omega⟩
theorem Gw.big (o t : List UInt8) (ho : o.length ≤ 2000) (ht : t.length ≤ 131100) : Gw o t (o ++ t) 0 := ⟨fun _ => rfl, fun h => h, by rw [List.length_append]; omega, by rw [List.length_append]; omega⟩
theorem Gw.gave (o t : List UInt8) (h : 2000 < o.length) : Gw o t o 0 := ⟨fun x => by rw [List.length_append] at x; omega, fun _ => h, by omega, Nat.le_refl _⟩
theorem Gw.trans {o t1 o1 t2 o2 : List UInt8} {c1 c2 : Nat} (h : Gw o t1 o1 c1) (k : Gw o1 t2 o2 c2) : Gw o (t1 ++ t2) o2 (c1 + c2) := by
  have hm := h.most
  have km := k.most
  have hu := h.up
  have ku := k.up
  refine ⟨fun x => ?_, fun x => ?_, by omega, by omega⟩
  · rw [List.length_append, List.length_append] at x
    have e := h.same (by rw [List.length_append]; omega)
    subst e
    rw [k.same (by simp only [List.length_append]; omega), List.append_assoc]
  · rcases Nat.lt_or_ge 2000 (o ++ t1).length with y | y
    · have := h.long y; omega
    · have e := h.same y
      subst e
      exact k.long (by rw [List.append_assoc]; exact x)
theorem Gw.more {o t o' : List UInt8} {c d : Nat} (h : Gw o t o' c) (hc : c ≤ d) : Gw o t o' d := ⟨h.same, h.long, by have := h.most; omega, h.up⟩
/-- What a function of the writer leaves. -/
def WSt (B z : Nat) (w : World) (v : Value) (o t : List UInt8) (f : Bool) (c : Nat) (w' : World) : Prop := ∃ v' o', WX z w w' v v' ∧ WrI B z w' v' o' (f || nl10 t) ∧ Gw o t o' c
def WPost (B z : Nat) (w : World) (v : Value) (o t : List UInt8) (f : Bool) (c : Nat) (e : Ending) (w' : World) : Prop := e = .returned (.tuple #[]) ∧ WSt B z w v o t f c w'
section
variable {B z : Nat} {w w1 w2 : World} {v v1 : Value} {o o1 t t1 t2 : List UInt8} {f : Bool} {c c1 c2 : Nat}
theorem WSt.cast (h : WSt B z w v o t f c w1) (e : t = t1) (hc : c ≤ c1) : WSt B z w v o t1 f c1 w1 := by
  subst e
  obtain ⟨v', o', h1, h2, h3⟩ := h
  exact ⟨v', o', h1, h2, h3.more hc⟩
theorem PutI.st (h : PutI B z w v o t f w1) : WSt B z w v o t f t.length w1 := by
  obtain ⟨v', h1, h2⟩ := h
  exact ⟨v', o ++ t, h1, h2, Gw.put o t⟩
/-- What lies below the writer stays. -/
theorem WX.bel {n : Nat} {W : World} (hb : Below n W w) (hW : WrI B z w v o f) (hn : n ≤ z) (hx : WX z w w1 v v1) : Below n W w1 := by
  refine ⟨hx.os.trans hb.os, hx.tape.trans hb.tape, hx.output.trans hb.output, Nat.le_trans hb.size hx.size, fun k hk => ?_⟩
  have hz := (Array.getElem?_eq_some_iff.1 hW.blk).1
  refine (hx.block k (by omega) (by omega) fun e => ?_).trans (hb.block k hk)
  have h1 := (World.ownsRow.lt hW.row k e.symm).1
  have h2 := hW.low
  omega
end
/-- What the writer of lines asks of a world. -/
structure EnvW (W : World) : Prop where
  shx : ShapesX W
  lim : ∃ m, W.cell? ⟨2, 0, none⟩ = some (.int .i64 m)
  pow : ∀ w, Below W.heap.size W w → Lib.TabIs Tryz.prog w "internal/strconv.uint64pow10" .u64 Lib.pow10Tab
theorem EnvW.later {w w' : World} (h : EnvW w) (hb : Below w.heap.size w w') : EnvW w' := ⟨h.shx.later hb, by obtain ⟨m, hm⟩ := h.lim; exact ⟨m, cell_later hb hm⟩, fun u hu => h.pow u (bnext hb hu)⟩
theorem EnvW.lt {w : World} (h : EnvW w) : (2 : Nat) < w.heap.size := by obtain ⟨m, hm⟩ := h.lim; exact World.block_lt_of_cell? _ _ hm
/-- One text, two, three .. are put. -/
theorem put_at {W w : World} {B z : Nat} {v : Value} {o : List UInt8} {f : Bool} (hE : EnvW W) (hb : Below W.heap.size W w) (hz : W.heap.size ≤ z) (hW : WrI B z w v o f) (l : List ByteArray) (hl : l.length ≤ 11) (hs : ∀ t ∈ l, t.size ≤ 200000) (ho : o.length ≤ 10000000) {wl : World} (hwl : wl = w.alloc (.cells (l.map Value.string).toArray 9)) :
    Calls Tryz.prog 42 #[.pointer (some ⟨z, 0, none⟩), .slice (some ⟨w.heap.size, 0, none⟩) l.length l.length] wl fun e w' => e = .returned (.tuple #[]) ∧ PutI B z w v o (cat l) f w' := by
  obtain ⟨m, hm⟩ := hE.lim
  have hal : Below w.heap.size w wl := by rw [hwl]; exact ba _
  have hg : wl.heap[w.heap.size]? = some (.cells (l.map Value.string).toArray 9 (0, 0)) := by rw [hwl]; exact at_new rfl
  have hzl := (Array.getElem?_eq_some_iff.1 hW.blk).1
  have hN : NL.In wl ⟨some ⟨w.heap.size, 0, none⟩, w.heap.size, 0, l.length, l⟩ := ⟨Nat.le_refl _, by show l.length ≤ maxLen; unfold maxLen; omega, fun _ => rfl, fun i t ht => ⟨by
    rw [Nat.zero_add, cell_of_row _ _ _ _ _ _ hg]
    have ht : l[i]? = some t := ht
    simp [ht], by have := hs t (List.mem_of_getElem? ht); unfold maxLen; omega⟩⟩
  refine (put_any _ wl (hW.below hal) hN ⟨by show w.heap.size ≠ z; omega, fun e => ?_⟩ hs hl ho m (cell_later hal (cell_later hb hm)) (Nat.lt_of_lt_of_le hE.lt hz)).mono fun e w' h => ⟨h.1, ?_⟩
  · have := (World.ownsRow.lt hW.row w.heap.size e.symm).2
    omega
  · obtain ⟨v', h1, h2⟩ := h.2
    exact ⟨v', (WX.below hal).trans h1, h2⟩
end Go.Proofs.YtpphjddljngkmaaGreatDoor

namespace Go.Proofs.YtpphjddljngkmaaGreatDoor
open Go.RowKit

theorem nl10_mem (l : List UInt8) : nl10 l = true ↔ (10 : UInt8) ∈ l := by unfold nl10; exact List.contains_iff_mem
theorem quote_nl (s : List UInt8) : nl10 (quoteL s) = nl10 s := by
  rw [Bool.eq_iff_iff, nl10_mem, nl10_mem]
  unfold quoteL
  constructor
  · intro h
    have h := (List.mem_append.1 h).resolve_right (fun q => absurd (List.mem_singleton.1 q) (by decide))
    have h := (List.mem_cons.1 h).resolve_left (by decide)
    obtain ⟨c, hc, hx⟩ := List.mem_flatMap.1 h
    by_cases q : c = 39
    · rw [if_pos q] at hx
      exact absurd hx (by decide)
    · rw [if_neg q, List.mem_singleton] at hx
      rw [hx]; exact hc
  · intro h
    exact List.mem_append.2 (.inl (List.mem_cons_of_mem _ (List.mem_flatMap.2 ⟨10, h, by rw [if_neg (by decide)]; exact List.mem_singleton.2 rfl⟩)))
theorem cat_one (t : ByteArray) : cat [t] = t.data.toList := by unfold cat; simp
theorem feed_st {B z : Nat} {w w1 : World} {v v1 : Value} {o o1 t : List UInt8} {f g : Bool} {c : Nat} (hx : WX z w w1 v v1) (hw : WrI B z w1 v1 o1 g) (hg : Gw o t o1 c) (b : Bool) (hb : b = (f || nl10 t)) : WSt B z w v o t f c (w1.setCell ⟨z, 1, none⟩ (.bool b)) :=
  ⟨v1, o1, hx.set 1 _, by rw [← hb]; exact hw.feed b, hg⟩
set_option maxRecDepth 100000 in
set_option maxHeartbeats 4000000 in
theorem quoted_any {W w : World} {B z : Nat} {v : Value} {o : List UInt8} {f : Bool} (s : ByteArray) (hE : EnvW W) (hb : Below W.heap.size W w) (hz : W.heap.size ≤ z) (hW : WrI B z w v o f) (hs : s.size ≤ 65536) (ho : o.length ≤ 10000000) :
    Calls Tryz.prog 75 #[.pointer (some ⟨z, 0, none⟩), .string s] w fun e w' => WPost B z w v o (quoteL s.data.toList) f 0 e w' := by
  obtain ⟨m, hm⟩ := hE.lim
  have HQU := hide (fun w (h : Below W.heap.size W w) => quote_any s w hs m (cell_later h hm))
  have HCT := hide (fun (wr : World) (h : Below W.heap.size W wr) => show Calls Tryz.prog 58 #[.string s, .string ⟨#[10]⟩] wr fun e w' => e = .returned (.bool (nl10 s.data.toList)) ∧ w' = wr from cont_nl s.data.toList ▸ Tryz.strings_Contains s ⟨#[10]⟩ m wr (by omega) (cell_later h hm))
  have HPU := hide (fun (w1 : World) (h : Below W.heap.size W w1) (hW1 : WrI B z w1 v o f) => show Calls Tryz.prog 42 #[.pointer (some ⟨z, 0, none⟩), .slice (some ⟨w1.heap.size, 0, none⟩) 1 1] (w1.alloc (.cells #[.string (quoteB s)] 9)) fun e w' => e = .returned (.tuple #[]) ∧ PutI B z w1 v o (cat [quoteB s]) f w' from put_at hE h hz hW1 [quoteB s] (by simp) (fun t ht => by rw [List.mem_singleton] at ht; subst ht; have := quoteB_size s hs; omega) ho rfl)
  have HBL := hide (fun (w1 : World) (v1 : Value) (hx : WX z w w1 v v1) => WX.bel hb hW hz hx)
  have HNL := hide (quote_nl s.data.toList)
  have hqb : cat [quoteB s] = quoteL s.data.toList := by rw [cat_one]; unfold quoteB; simp
  rw [hqb] at HPU
  have HQL : Hid ((quoteL s.data.toList).length ≤ 131100) := hide (by
    have := quoteL_len s.data.toList
    have h2 : s.data.toList.length = s.size := by simp
    omega)
  obtain ⟨xa, cp, hvf⟩ := bytes_form hW.row
  subst hvf
  have HW := hide hW
  have HB := hide hb
  have c0 := hW.c0
  have c1 := hW.c1
  have f1 := hW.fz 1
  clear hW hb hE hm hs hqb
  generalize quoteL s.data.toList = q at *
  by_cases h2 : o.length ≤ 2000
  · have q2 : (o.length : Int) ≤ 2000 := by omega
    have HO := hide h2
    clear h2
    go_enter Tryz.func75, Tryz.ntmps75
    go_wp2_with fail
    refine (unhide HQU w (unhide HB)).mono ?_
    rintro e w1 ⟨rfl, hb1⟩
    have HP := hide (unhide HPU w1 (bnext (unhide HB) hb1) ((unhide HW).below hb1))
    have HX1 := hide (WX.below (z := z) (v := .slice xa o.length cp) hb1)
    clear hb1 HPU HQU c0 c1 f1
    go_wp2_with fail
    refine (unhide HP).mono ?_
    rintro e w2 ⟨rfl, v2, hx2, hw2⟩
    have HX2 := hide ((unhide HX1).trans hx2)
    obtain ⟨ff, hff⟩ : ∃ ff, ff = (f || nl10 q) := ⟨_, rfl⟩
    rw [← hff] at hw2
    have HW2 := hide hw2
    have c1 := hw2.c1
    have f1 := hw2.fz 1
    have HC2 := hide (unhide HCT w2 (unhide HBL w2 v2 (unhide HX2)))
    have HFF := hide hff
    clear hx2 hw2 HP HX1 HCT HBL hff
    cases ff
    · have HF := hide (feed_st (unhide HX2) (unhide HW2) (Gw.big o q (unhide HO) (unhide HQL)) (nl10 s.data.toList) (by
        have h := unhide HFF
        rw [← h]
        have h3 : nl10 q = false := by cases hq : nl10 q with
          | false => rfl
          | true => rw [hq, Bool.or_true] at h; cases h
        rw [← unhide HNL, h3]))
      go_wp2_with fail
      refine (unhide HC2).mono ?_
      rintro e w2 ⟨rfl, rfl⟩
      generalize nl10 s.data.toList = nt at *
      go_wp2_with fail
      go_end0
      exact ⟨rfl, unhide HF⟩
    · have HF := hide (feed_st (unhide HX2) (unhide HW2) (Gw.big o q (unhide HO) (unhide HQL)) true (unhide HFF))
      go_wp2_with fail
      go_end0
      exact ⟨rfl, unhide HF⟩
  · have q2 : ¬ (o.length : Int) ≤ 2000 := by omega
    have HO : Hid (2000 < o.length) := hide (by omega)
    clear h2
    cases f
    · have HF := hide (feed_st (WX.refl z w _) (unhide HW) (Gw.gave o q (unhide HO)) (nl10 s.data.toList) (by rw [unhide HNL, Bool.false_or]))
      go_enter Tryz.func75, Tryz.ntmps75
      go_wp2_with fail
      refine (unhide HCT w (unhide HB)).mono ?_
      rintro e w ⟨rfl, rfl⟩
      generalize nl10 s.data.toList = nt at *
      go_wp2_with fail
      go_end0
      exact ⟨rfl, unhide HF⟩
    · have HF := hide (feed_st (WX.refl z w _) (unhide HW) (Gw.gave o q (unhide HO)) true (by rw [Bool.true_or]))
      go_enter Tryz.func75, Tryz.ntmps75
      go_wp2_with fail
      go_end0
      exact ⟨rfl, unhide HF⟩
end Go.Proofs.YtpphjddljngkmaaGreatDoor
