/- The checker: Check, whole. Statements that differ in where they lie alone: what is wrong with them is the same. Lines of a program that are read, plain: what is wrong is not 0. -/
import Derived.Test.YtpkmamgleofimaaGreatDoorCkTM
import Derived.Deep.OwnRows
import Derived.Test.YtpkmamgleofimaaGreatDoorStCP
import Derived.Test.YtpkmamgleofimaaGreatDoorRdPlainM
import Derived.Test.YtpkmamgleofimaaGreatDoorSyPlainM
import Derived.Test.YtpkmamgleofimaaGreatDoorLxWalkAM
import Derived.Test.YtpkmamgleofimaaGreatDoorRdNzM
namespace Go.Proofs.YtpkmamgleofimaaGreatDoor
open Go.RowKit

theorem size_fau : (Tryz.prog.info? 30).map (·.size) = some 2 := by kernel_rfl
def ChkPost (w : World) (P : List SV) (e : Ending) (w' : World) : Prop := e = .returned (.agg #[.int .i64 (lookS P).er, .int .i64 (lookS P).at_]) ∧ Below w.heap.size w w'
set_option maxRecDepth 100000 in
set_option maxHeartbeats 4000000 in
theorem check_any (w : World) (V : PV) (P : List SV) (hE : Env w.heap.size w V P) : Calls Tryz.prog 10 #[V.v P.length] w (ChkPost w P) := by
  have hk0 := (Below.refl w.heap.size w).alloc (Nat.le_refl _) (.cells #[.int .i64 0, .int .i64 0] 30)
  have HK := hide hk0
  have HLK := hide (look_any (w.alloc (.cells #[.int .i64 0, .int .i64 0] 30)) V P ⟨fun W q => hE.prog W (bnext hk0 q), fun W q => hE.shx W (bnext hk0 q), fun W q => hE.shp W (bnext hk0 q)⟩)
  clear hE hk0
  go_enter Tryz.func10, Tryz.ntmps10
  go_wp2_with fail
  refine (unhide HLK).mono ?_
  rintro e w2 ⟨z, bl, bf, n, rfl, hM, hb⟩
  have c0 := hM.c0
  have c1 := hM.c1
  have hf0 : w2.heap[w.heap.size]? = some (.cells #[.int .i64 0, .int .i64 0] 30 (0, 0)) := row_below (at_new rfl) hb
  have HB := hide (bnext (unhide HK) hb)
  have hzB := hM.oz
  rw [World.size_alloc] at hzB
  have g0 : w2.cell? ⟨w.heap.size, 0, none⟩ = some (.int .i64 0) := cr hf0
  have g1 : w2.cell? ⟨w.heap.size, 1, none⟩ = some (.int .i64 0) := cr hf0
  have r0 := frozen_of_row w2 w.heap.size 0 _ _ hf0
  have r1 := frozen_of_row w2 w.heap.size 1 _ _ hf0
  generalize her : (lookS P).er = er at *
  generalize hat2 : (lookS P).at_ = at2 at *
  have HQ := hide (And.intro her hat2)
  have HF3 : Hid (((w2.setCell ⟨w.heap.size, 0, none⟩ (.int .i64 er)).setCell ⟨w.heap.size, 1, none⟩ (.int .i64 at2)).heap[w.heap.size]? = some (.cells #[.int .i64 er, .int .i64 at2] 30 (0, 0))) := hide (heap_setCell_same _ _ 1 _ _ _ (heap_setCell_same _ _ 0 _ _ _ hf0))
  have HBZ := hide (below_cell (below_cell (unhide HB) (Nat.le_refl _) 0 (.int .i64 er)) (Nat.le_refl _) 1 (.int .i64 at2))
  have hzn : ¬ z = w.heap.size := by omega
  have hzn2 : ¬ w.heap.size = z := by omega
  clear hM hb hf0 HLK her hat2
  go_wp2_with fail
  refine bodyPost_ret (results_cell_row (p := 2) (ty := 30) rfl _ _ w.heap.size 30 #[.int .i64 er, .int .i64 at2] (0, 0) _ rfl (unhide HF3) Tryz.underlying30 rfl size_fau) rfl ?_
  exact ⟨by rw [(unhide HQ).1, (unhide HQ).2], unhide HBZ⟩
end Go.Proofs.YtpkmamgleofimaaGreatDoor

namespace Go.Proofs.YtpkmamgleofimaaGreatDoor
open Go.RowKit

theorem canS_fits (T : PT) : T.can.fits = T.fits := by unfold PT.fits; rw [can_cnt, can_dep]
theorem canS_errX (T : PT) : errX T.can = errX T := by unfold errX; rw [can_k, can_t, can_n, can_nm, can_len]
theorem canS_kid {T : PT} {i : Nat} (h : i < T.len) : T.can.kid i = (T.kid i).can := by
  have e := can_lst T
  have e2 := congrArg (fun l => l[i]?) e
  simp only [List.getElem?_map] at e2
  rw [PT.lst_at (by rw [can_len]; exact h), PT.lst_at h] at e2
  exact Option.some.inj e2
theorem canS_badX : ∀ T : PT, T.can.badX = T.badX := PT.ind fun T ih => by
  rw [PT.badX_eq T.can, PT.badX_eq T, canS_errX, can_len]
  rw [firstTo_congr (f := fun i => (T.can.kid i).badX) (g := fun i => (T.kid i).badX) T.len fun i hi => by rw [canS_kid hi, ih i hi]]
theorem canS_wrongX (T : PT) : T.can.wrongX = T.wrongX := by unfold PT.wrongX; rw [canS_fits, canS_badX]
theorem canS_tgE (T : PT) : tgE T.can = tgE T := by unfold tgE; rw [canS_wrongX, can_k]
theorem svc_kndE (S : SV) : S.can.kndE = S.kndE := by
  unfold SV.kndE SV.dfE SV.can
  dsimp only
  rw [canS_wrongX, canS_tgE, can_wrong]
  rfl
theorem svc_wrong (S : SV) : S.can.wrong = S.wrong := by
  have h := svc_kndE S
  unfold SV.wrong
  rw [h]
  rfl
end Go.Proofs.YtpkmamgleofimaaGreatDoor

namespace Go.Proofs.YtpkmamgleofimaaGreatDoor
open Go.RowKit

theorem rdP_nz {s : ByteArray} {er : Int} {a : Nat} (h : rdP s = .error (er, a)) : er ≠ 0 := by
  unfold rdP at h
  split at h
  · injection h with h; injection h with h _; omega
  · rcases bnd_bad h with h | ⟨p, j, h1, h⟩
    · exact rdA_nz h
    · split at h
      · cases h
      · injection h with h; injection h with h _; omega
def Nzs {α : Type} (R : Sy α) : Prop := ∀ er a, R = .error (er, a) → er ≠ 0
section
variable {α β : Type}
theorem Nzs.err {er : Int} {a : Nat} (h : er ≠ 0) : Nzs (α := α) (.error (er, a)) := fun _ _ q => by injection q with q; injection q with q _; rw [← q]; exact h
theorem Nzs.ok (x : α × List Tk) : Nzs (.ok x) := fun _ _ q => by cases q
theorem Nzs.bind {R : Sy α} {f : α → List Tk → Sy β} (h : Nzs R) (k : ∀ a j, R = .ok (a, j) → Nzs (f a j)) : Nzs (sbd R f) := fun er a q => by
  cases hr : R with
  | error e => rw [hr, sbd_err] at q; injection q with q; rw [q] at hr; exact h er a hr
  | ok v => rw [hr] at q; exact k v.1 v.2 hr er a q
theorem Nzs.ite {c : Prop} [Decidable c] {a b : Sy α} (h : c → Nzs a) (k : ¬ c → Nzs b) : Nzs (if c then a else b) := by
  split
  · exact h ‹_›
  · exact k ‹_›
end
section
variable {E : Nat}
theorem ndS_nz (s : ByteArray) (l : List Tk) : Nzs (ndS E s l) := Nzs.ite (fun _ => Nzs.ok _) fun _ => Nzs.err (by decide)
theorem nmS_nz (l : List Tk) : Nzs (nmS E l) := Nzs.ite (fun _ => Nzs.ite (fun _ => Nzs.ok _) fun _ => Nzs.err (by decide)) fun _ => Nzs.err (by decide)
theorem nuS_nz (l : List Tk) : Nzs (nuS E l) := Nzs.ite (fun _ => Nzs.err (by decide)) fun _ => Nzs.ite (fun _ => Nzs.err (by decide)) fun _ => Nzs.ok _
theorem nsF_nz : ∀ (f : Nat) (o : List ByteArray) (l : List Tk), 9 ≤ f + o.length → o.length ≤ 8 → Nzs (nsF E f o l)
  | 0, o, l, h, h8 => by omega
  | f + 1, o, l, h, h8 => by
    unfold nsF
    exact Nzs.bind (nmS_nz l) fun t r _ => Nzs.ite (fun _ => Nzs.err (by decide)) fun q => Nzs.ite (fun _ => nsF_nz f _ r.tail (by rw [List.length_append, List.length_singleton]; omega) (by rw [List.length_append, List.length_singleton]; omega)) fun _ => Nzs.ok _
theorem nsS_nz (l : List Tk) : Nzs (nsS E l) := nsF_nz 9 [] l (Nat.le_refl _) (Nat.zero_le _)
theorem ptS_nz (l : List Tk) : Nzs (ptS E l) := Nzs.ite (fun _ => by
  cases h : rdP (ahd E 0 l).t with
  | error e =>
    refine Nzs.err ?_
    have h2 : rdP (ahd E 0 l).t = .error (e.1, e.2) := h
    exact rdP_nz h2
  | ok v => exact Nzs.ok _) fun _ => Nzs.err (by decide)
theorem erO_nz {α : Type} {R : Sy α} {x : Int × Nat} (h : Nzs R) (hx : x.1 ≠ 0) : (erO R x).1 ≠ 0 := by
  cases hr : R with
  | error e => exact h e.1 e.2 (by rw [hr])
  | ok v => exact hx
theorem tmS_nz {α : Type} (l : List Tk) : Nzs (tmS (α := α) E l) := by
  have : (tmE E l).1 ≠ 0 := by
    unfold tmE
    split
    · exact erO_nz (nmS_nz l) (by show (5 : Int) ≠ 0; decide)
    · split
      · exact erO_nz (nuS_nz l) (by show (5 : Int) ≠ 0; decide)
      · split
        · show (5 : Int) ≠ 0; decide
        · split
          · show (5 : Int) ≠ 0; decide
          · show (2 : Int) ≠ 0; decide
  exact Nzs.err this
def LvNz (p : Option Lv) : Prop := ∀ q, p = some q → ∀ l : List Tk, Nzs (q.sg l) ∧ Nzs (q.pi l) ∧ Nzs (q.xp l)
variable {p : Option Lv}
theorem xpO_nz (h : LvNz p) (l : List Tk) : Nzs (xpO E p l) := by
  unfold xpO
  split
  · exact Nzs.err (by decide)
  · exact (h _ rfl l).2.2
theorem piO_nz (h : LvNz p) (l : List Tk) : Nzs (piO E p l) := by
  unfold piO
  split
  · exact Nzs.err (by decide)
  · exact (h _ rfl l).2.1
theorem sgO_nz (h : LvNz p) (l : List Tk) : Nzs (sgO E p l) := by
  unfold sgO
  split
  · exact Nzs.err (by decide)
  · exact (h _ rfl l).1
theorem agF_nz (h : LvNz p) : ∀ (f : Nat) (o : List PT) (l : List Tk), 9 ≤ f + o.length → o.length ≤ 8 → Nzs (agF E p f o l)
  | 0, o, l, hf, h8 => by omega
  | f + 1, o, l, hf, h8 => by
    unfold agF
    exact Nzs.ite (fun _ => tmS_nz l) fun q => Nzs.bind (xpO_nz h l) fun x r _ => Nzs.ite (fun _ => agF_nz h f _ r.tail (by rw [List.length_append, List.length_singleton]; omega) (by rw [List.length_append, List.length_singleton]; omega)) fun _ => Nzs.bind (ndS_nz _ r) fun _ _ _ => Nzs.ok _
theorem agS_nz (h : LvNz p) (l : List Tk) : Nzs (agS E p l) := Nzs.ite (fun _ => Nzs.ok _) fun _ => agF_nz h 9 [] l (Nat.le_refl _) (Nat.zero_le _)
theorem npS_nz (h : LvNz p) (l : List Tk) : Nzs (npS E p l) := Nzs.bind (nmS_nz l) fun _ r _ => Nzs.ite (fun _ => Nzs.bind (xpO_nz h r.tail) fun _ q _ => Nzs.bind (ndS_nz _ q) fun _ _ _ => Nzs.ok _) fun _ => Nzs.ite (fun _ => Nzs.bind (agS_nz h r.tail) fun _ _ _ => Nzs.ok _) fun _ => Nzs.ok _
theorem piS_nz (h : LvNz p) (l : List Tk) : Nzs (piS E p l) :=
  Nzs.ite (fun _ => npS_nz h l) fun _ => Nzs.ite (fun _ => Nzs.bind (nuS_nz l) fun _ _ _ => Nzs.ok _) fun _ => Nzs.ite (fun _ => Nzs.ok _) fun _ => Nzs.ite (fun _ => Nzs.bind (piO_nz h l.tail) fun _ _ _ => Nzs.ok _) fun _ =>
    Nzs.bind (ndS_nz _ l) fun _ r _ => Nzs.bind (xpO_nz h r) fun _ q _ => Nzs.bind (ndS_nz _ q) fun _ _ _ => Nzs.ok _
theorem sgS_nz (h : LvNz p) (l : List Tk) : Nzs (sgS E p l) := Nzs.ite (fun _ => Nzs.bind (sgO_nz h l.tail) fun _ _ _ => Nzs.ok _) fun _ => piS_nz h l
theorem rwF_nz {lv : Nat} {N : List Tk → Sy PT} (hN : ∀ l, Nzs (N l)) (hL : ∀ l, Le l.length (N l)) : ∀ (f : Nat) (x : PT) (l : List Tk), l.length < f → Nzs (rwF E lv N f x l)
  | 0, x, l, h => by omega
  | f + 1, x, l, h => by
    unfold rwF
    refine Nzs.ite (fun _ => Nzs.ok _) fun hk => Nzs.bind (hN l.tail) fun y r hr => rwF_nz hN hL f _ r ?_
    have h3 := hL l.tail y r hr
    have hl : l ≠ [] := by rintro rfl; exact hk rfl
    have h4 : l.tail.length < l.length := by rw [List.length_tail]; have := List.length_pos_iff.2 hl; omega
    omega
theorem rwS_nz {lv : Nat} {N : List Tk → Sy PT} (hN : ∀ l, Nzs (N l)) (hL : ∀ l, Le l.length (N l)) (l : List Tk) : Nzs (rwS E lv N l) := Nzs.bind (hN l) fun x r _ => rwF_nz hN hL _ x r (Nat.lt_succ_self _)
theorem rowS_nz (h : LvNz p) (h2 : LvLe p) (lv : Nat) (l : List Tk) : Nzs (rowS E p lv l) := by
  have a4 : ∀ l, Nzs (sgS E p l) := fun l => sgS_nz h l
  have b4 : ∀ l : List Tk, Le l.length (sgS E p l) := fun l => sgS_le h2 l
  have a3 : ∀ l, Nzs (rwS E 3 (sgS E p) l) := rwS_nz a4 b4
  have b3 : ∀ l : List Tk, Le l.length (rwS E 3 (sgS E p) l) := rwS_le b4
  have a2 : ∀ l, Nzs (rwS E 2 (rwS E 3 (sgS E p)) l) := rwS_nz a3 b3
  have b2 : ∀ l : List Tk, Le l.length (rwS E 2 (rwS E 3 (sgS E p)) l) := rwS_le b3
  unfold rowS
  split
  · exact rwS_nz a2 b2 l
  · split
    · exact a2 l
    · split
      · exact a3 l
      · exact a4 l
theorem lvO_nz : ∀ d : Nat, LvNz (lvO E d)
  | 0 => fun q h => by cases h
  | d + 1 => fun q h l => by
    have := lvO_nz d
    injection h with h
    subst h
    exact ⟨sgS_nz this l, piS_nz this l, rowS_nz this (lvO_le d) 1 l⟩
theorem exS_nz (d : Nat) (l : List Tk) : Nzs (exS E d l) := xpO_nz (lvO_nz d) l
theorem dpS_nz (l : List Tk) : Nzs (dpS E l) := Nzs.ite (fun _ => Nzs.ok _) fun _ => Nzs.bind (nsS_nz l) fun _ r _ => Nzs.bind (ndS_nz _ r) fun _ _ _ => Nzs.ok _
theorem dlS_nz (l : List Tk) : Nzs (dlS E l) := Nzs.ite (fun _ => nsS_nz l) fun _ => Nzs.ok _
theorem dfS_nz (l : List Tk) : Nzs (dfS E l) := Nzs.bind (nmS_nz l) fun _ r _ => Nzs.bind (ndS_nz _ r) fun _ r _ => Nzs.bind (dpS_nz r) fun _ r _ => Nzs.bind (dlS_nz r) fun _ r _ => Nzs.bind (nmS_nz r) fun _ _ _ => Nzs.ok _
theorem evP_nz (l : List Tk) : Nzs (evP E l) := Nzs.ite (fun _ => Nzs.bind (ptS_nz l.tail) fun _ _ _ => Nzs.ok _) fun _ => Nzs.ok _
theorem evG_nz (d : Nat) (x : PT) (a : Nat) (l : List Tk) : Nzs (evG E d x a l) := Nzs.ite (fun _ => Nzs.ite (fun _ => Nzs.bind (exS_nz d l.tail) fun _ _ _ => Nzs.ok _) fun _ => Nzs.err (by decide)) fun _ => Nzs.ok _
theorem ddS_nz (d : Nat) (S : SV) (l : List Tk) : Nzs (ddS E d S l) :=
  Nzs.ite (fun _ => Nzs.ok _) fun _ => Nzs.ite (fun _ => Nzs.bind (dfS_nz l.tail) fun _ _ _ => Nzs.ok _) fun _ => Nzs.ite (fun _ => Nzs.bind (nmS_nz l) fun _ r _ => Nzs.bind (ndS_nz _ r) fun _ q _ => Nzs.bind (ptS_nz q) fun _ _ _ => Nzs.ok _) fun _ =>
    Nzs.bind (exS_nz d l) fun _ r _ => Nzs.bind (evP_nz r) fun _ q _ => Nzs.bind (evG_nz d _ _ q) fun _ _ _ => Nzs.ok _
theorem woS_nz (l : List Tk) : Nzs (woS E l) := Nzs.bind (ndS_nz _ l) fun _ r _ => Nzs.bind (nmS_nz r) fun _ q _ => Nzs.bind (ndS_nz _ q) fun _ _ _ => Nzs.ok _
theorem wfS_nz (y : Bool) (S : SV) (l : List Tk) : Nzs (wfS E y S l) := Nzs.ite (fun _ => Nzs.bind (woS_nz l.tail) fun _ _ _ => Nzs.ok _) fun _ => Nzs.ite (fun _ => Nzs.ok _) fun _ => Nzs.err (by decide)
theorem wyS_nz (S : SV) (l : List Tk) : Nzs (wyS E S l) :=
  Nzs.ite (fun _ => Nzs.ite (fun _ => Nzs.bind (woS_nz l.tail) fun _ _ _ => Nzs.ok _) fun _ => Nzs.ite (fun _ => Nzs.bind (woS_nz l.tail.tail) fun _ r _ => wfS_nz true _ r) fun _ => wfS_nz false S l.tail) fun _ => Nzs.ok _
end
theorem raS_nz (s : ByteArray) (l : List Tk) : Nzs (raS s l) :=
  Nzs.bind (Nzs.ite (fun _ => nmS_nz l) fun _ => Nzs.ok _) fun _ r _ => Nzs.bind (ddS_nz 400 _ r) fun _ q _ => Nzs.bind (wyS_nz _ q) fun _ _ _ => Nzs.ite (fun _ => Nzs.ok _) fun _ => Nzs.err (by decide)
theorem lnS_nz {s : ByteArray} {er : Int} {a : Nat} (h : lnS s = .error (er, a)) : er ≠ 0 := by
  unfold lnS at h
  split at h
  · cases h
  · split at h
    · rename_i q
      injection h with h
      injection h with h1 h2
      rw [← h1]
      omega
    · cases hr : raS s (lineP s).1 with
      | error e =>
        rw [hr] at h
        injection h with h
        subst h
        exact raS_nz s _ _ _ hr
      | ok x =>
        rw [hr] at h
        dsimp only at h
        split at h
        · cases h
        · injection h with h
          injection h with h1 h2
          rw [← h1]; decide
end Go.Proofs.YtpkmamgleofimaaGreatDoor
