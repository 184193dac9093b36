/- Rows of bytes that a call makes by appending; small facts. A pattern made simpler: what it becomes. What sets.Text does: a set's bytes, rising. -/
import Derived.Test.YtbmngbpillihaaaDoorHas5M
import Derived.Maps.AppendAt
import Derived.Test.YtbmngbpillihaaaDoorScanRepM
namespace Go.Proofs.YtbmngbpillihaaaDoor
open Go.RowKit

/-- A byte as a cell. -/
def bc (b : UInt8) : Value := .int .u8 (b.toNat : Int)
theorem info_byte : (Tryd.prog.info? 5).map (fun i => (i.zero, i.size, i.bytes)) = some (some (.int .u8 0), 1, 1) := by kernel_rfl
theorem out_string (v : Value) (l : List UInt8) (B : Nat) (wr : World) (ho : wr.ownsRow B 5 1 v l.length (l.map bc)) :
    (convert 97 9 v).run Tryd.prog wr = .ok (.string ⟨l.toArray⟩) wr := by
  rcases ho.2 with ⟨rfl, h0⟩ | ⟨g, cap, cur, rfl, _, _, _, _, _, _⟩
  · have : l = [] := List.eq_nil_of_length_eq_zero h0
    subst this
    exact run_convert_bytes_nil (P := Tryd.prog) wr 97 5 Tryd.underlying97 Tryd.underlying5 0 0 9 Tryd.underlying9
  · exact run_convert_bytes_back (P := Tryd.prog) wr 97 9 5 ⟨g, 0, none⟩ cap l Tryd.underlying97 Tryd.underlying5 Tryd.underlying9 (fun j hj => ho.cells rfl j _ (by simp only [List.getElem?_map, List.getElem?_eq_getElem hj, Option.map_some, bc]))
theorem bc_nat (k : Nat) (h : k < 256) : bc (UInt8.ofNat k) = .int .u8 (k : Int) := by
  unfold bc
  rw [UInt8.toNat_ofNat', Nat.mod_eq_of_lt h]
/-- The bytes of a set that are below n, rising. -/
def tx (p : Nat → Bool) : Nat → List UInt8
  | 0 => []
  | k + 1 => tx p k ++ (if p k then [UInt8.ofNat k] else [])
theorem tx_le (p : Nat → Bool) : ∀ k, (tx p k).length ≤ k
  | 0 => Nat.le_refl _
  | k + 1 => by
    have := tx_le p k
    unfold tx
    rw [List.length_append]
    split <;> simp <;> omega
theorem tx_yes (p : Nat → Bool) (k : Nat) (h : k < 256) (hp : p k = true) : (tx p (k + 1)).map bc = (tx p k).map bc ++ [.int .u8 (k : Int)] ∧ (tx p (k + 1)).length = (tx p k).length + 1 := by
  have : tx p (k + 1) = tx p k ++ [UInt8.ofNat k] := by show tx p k ++ _ = _; rw [hp]; rfl
  rw [this, List.map_append, List.length_append]
  exact ⟨by rw [← bc_nat k h]; rfl, rfl⟩
theorem tx_no (p : Nat → Bool) (k : Nat) (hp : p k = false) : tx p (k + 1) = tx p k := by
  show tx p k ++ _ = _
  rw [hp]
  exact List.append_nil _
end Go.Proofs.YtbmngbpillihaaaDoor

namespace Go.Proofs.YtbmngbpillihaaaDoor
open Go.RowKit

/-- A node, wherever its kids may lie. -/
def mkP (k : Int) (t : ByteArray) (n : Int) (nm : ByteArray) (l : List PT) : PT := ⟨k, t, n, nm, none, 0, 0, l.length, l.length, fun i => l[i]⟩
def PT.lst (T : PT) : List PT := List.ofFn T.kids
/-- A pattern without where it lies. -/
def PT.can : PT → PT
  | .node k t n nm _ _ _ _ _ kids => mkP k t n nm (List.ofFn fun i => PT.can (kids i))
def litP (t : ByteArray) : PT := mkP 1 t 0 ⟨#[]⟩ []
/-- The bytes of a set, rising. -/
def txt (p : Nat → Bool) : ByteArray := ⟨(tx p 256).toArray⟩
def anyP (p : Nat → Bool) : PT := if (tx p 256).length = 1 then litP (txt p) else mkP 3 (txt p) 0 ⟨#[]⟩ []
def cntP (k n : Int) : PT := if k = 2 ∧ n = 0 then litP ⟨#[]⟩ else if k = 9 ∧ n = 0 then mkP 12 ⟨#[]⟩ 0 ⟨#[]⟩ [] else mkP k ⟨#[]⟩ n ⟨#[]⟩ []
def isE (T : PT) : Bool := decide (T.k = 1) && decide (T.t.size = 0)
def isF (T : PT) : Bool := decide (T.k = 15)
def isA (T : PT) : Bool := decide (T.k = 17)
def nev (T : PT) : Bool := isF T || isA T
def oneB (T : PT) : Bool := decide (T.k = 3) || (decide (T.k = 1) && decide (T.t.size = 1))
/-- Two that stand one behind the other. -/
def behindP (a b : PT) : Option PT :=
  if a.k ≠ b.k then none else if a.k = 1 ∧ a.t.size + b.t.size ≤ 65536 then some (litP (a.t ++ b.t)) else if a.k = 2 ∧ a.n + b.n ≤ 65536 then some (cntP 2 (a.n + b.n)) else none
/-- Two of which either may match. -/
def eitherP (a b : PT) : Option PT :=
  if (oneB a && oneB b) = false then none else if (tx (fun c => inB a.t c && inB b.t c) 256).isEmpty = true then some (anyP fun c => inB a.t c || inB b.t c) else none
/-- Which stay: those that are not idle, up to the first one behind which nothing counts. -/
def stay (last idle : PT → Bool) : Bool → List PT → List PT
  | _, [] => []
  | true, _ :: l => stay last idle true l
  | false, p :: l => if idle p then stay last idle false l else p :: stay last idle (last p) l
/-- One more, with its neighbour where that can be. -/
def addP (join : PT → PT → Option PT) (out : List PT) (p : PT) : List PT :=
  match out.getLast? with
  | none => [p]
  | some x => match join x p with
    | some y => out.dropLast ++ [y]
    | none => out ++ [p]
def flatK (k : Int) (l : List PT) : List PT := l.flatMap fun p => if p.k = k then p.lst else [p]
def fewP (k : Int) (last idle : PT → Bool) (join : PT → PT → Option PT) (l : List PT) : List PT := (stay last idle false (flatK k l)).foldl (addP join) []
def oneOrP (k : Int) (l : List PT) (none : PT) : PT :=
  match l with
  | [] => none
  | [x] => x
  | l => mkP k ⟨#[]⟩ 0 ⟨#[]⟩ l
def catP (l : List PT) : PT := oneOrP 18 (fewP 18 nev isE behindP l) (litP ⟨#[]⟩)
def altP (l : List PT) : PT := oneOrP 19 (fewP 19 isA isF eitherP l) (mkP 15 ⟨#[]⟩ 0 ⟨#[]⟩ [])
def arbP (l : List PT) : PT :=
  if (isF (l.getD 0 PT.nul) || isE (l.getD 0 PT.nul)) = true then litP ⟨#[]⟩ else if (l.getD 0 PT.nul).k = 2 ∧ (l.getD 0 PT.nul).n = 1 then mkP 13 ⟨#[]⟩ 0 ⟨#[]⟩ [] else mkP 20 ⟨#[]⟩ 0 ⟨#[]⟩ l
/-- A node, its kids simpler already. -/
def simpN (k : Int) (t : ByteArray) (n : Int) (nm : ByteArray) (l : List PT) : PT :=
  if k = 1 then litP t
  else if k = 3 then anyP (inB t)
  else if k = 4 ∨ k = 5 ∨ k = 6 ∨ k = 7 then mkP k (txt (inB t)) 0 ⟨#[]⟩ []
  else if k = 2 ∨ k = 8 ∨ k = 9 ∨ k = 10 ∨ k = 11 then cntP k n
  else if k = 18 then catP l
  else if k = 19 then altP l
  else if k = 20 then arbP l
  else if k = 21 ∨ k = 22 then (if nev (l.getD 0 PT.nul) = true then l.getD 0 PT.nul else mkP k ⟨#[]⟩ 0 nm l)
  else if k = 23 ∨ k = 24 then mkP k ⟨#[]⟩ 0 nm l
  else mkP k ⟨#[]⟩ 0 ⟨#[]⟩ l
def PT.simp : PT → PT
  | .node k t n nm _ _ _ _ _ kids => simpN k t n nm (List.ofFn fun i => PT.simp (kids i))
theorem PT.can_eq (T : PT) : T.can = mkP T.k T.t T.n T.nm (T.lst.map PT.can) := by
  obtain ⟨k, t, n, nm, xa, b, o, len, cap, kids⟩ := T
  show mkP k t n nm (List.ofFn fun i => PT.can (kids i)) = mkP k t n nm ((List.ofFn kids).map PT.can)
  rw [List.map_ofFn]
  rfl
theorem PT.simp_eq (T : PT) : T.simp = simpN T.k T.t T.n T.nm (T.lst.map PT.simp) := by
  obtain ⟨k, t, n, nm, xa, b, o, len, cap, kids⟩ := T
  show simpN k t n nm (List.ofFn fun i => PT.simp (kids i)) = simpN k t n nm ((List.ofFn kids).map PT.simp)
  rw [List.map_ofFn]
  rfl
theorem PT.lst_len (T : PT) : T.lst.length = T.len := by unfold PT.lst; simp
theorem PT.lst_at {T : PT} {i : Nat} (h : i < T.len) : T.lst[i]? = some (T.kid i) := by
  unfold PT.lst
  rw [List.getElem?_ofFn, dif_pos h, PT.kid_at h]
theorem mkP_lst (k : Int) (t : ByteArray) (n : Int) (nm : ByteArray) (l : List PT) : (mkP k t n nm l).lst = l := by
  unfold PT.lst mkP
  exact List.ofFn_getElem
theorem can_k (T : PT) : T.can.k = T.k := by rw [PT.can_eq]; rfl
theorem can_t (T : PT) : T.can.t = T.t := by rw [PT.can_eq]; rfl
theorem can_n (T : PT) : T.can.n = T.n := by rw [PT.can_eq]; rfl
theorem can_nm (T : PT) : T.can.nm = T.nm := by rw [PT.can_eq]; rfl
theorem can_lst (T : PT) : T.can.lst = T.lst.map PT.can := by rw [PT.can_eq, mkP_lst]
theorem mem_lst_ind {P : PT → Prop} (h : ∀ T : PT, (∀ x ∈ T.lst, P x) → P T) : ∀ T, P T := PT.ind fun T ih => h T fun x hx => by
  obtain ⟨i, hi⟩ := List.mem_iff_getElem?.1 hx
  have hlt : i < T.len := by have := (List.getElem?_eq_some_iff.1 hi).1; rwa [PT.lst_len] at this
  rw [PT.lst_at hlt] at hi
  rw [← Option.some.inj hi]
  exact ih i hlt
theorem simp_can : ∀ T : PT, T.can.simp = T.simp := mem_lst_ind fun T ih => by
  rw [PT.simp_eq T.can, can_k, can_t, can_n, can_nm, can_lst, PT.simp_eq T, List.map_map]
  exact congrArg _ (List.map_congr_left fun x hx => ih x hx)
end Go.Proofs.YtbmngbpillihaaaDoor

namespace Go.Proofs.YtbmngbpillihaaaDoor
open Go.RowKit

set_option maxHeartbeats 1000000 in
theorem text_any (p : Nat → Bool) (w : World) :
    Calls Tryd.prog 44 #[sv p] w fun e w' => e = .returned (.string ⟨(tx p 256).toArray⟩) ∧ Below w.heap.size w w' := by
  obtain ⟨i0, hi, hz0, hz1, hz2⟩ := info_parts info_byte
  unfold sv
  have hcs := sc_size p
  have H1 := hide (fun k hk W => has_any p k hk W)
  unfold sv at H1
  have hi4 := size_set
  rw [← hcs] at hi4
  generalize sc p = C at *
  have HI := hide hi4
  clear hi4
  go_enter Tryd.func44, Tryd.ntmps44
  go_wp2
  go_loopw [3, 5] (fun v i wr => ∃ k : Nat, k ≤ 256 ∧ i = .int .i64 k ∧ wr.ownsRow (w.heap.size + 1) 5 1 v (tx p k).length ((tx p k).map bc) ∧ wr.heap[w.heap.size]? = some (.cells C 33 (0, 0)) ∧ Below w.heap.size w wr ∧ w.heap.size + 1 ≤ wr.heap.size) (fun _ i _ => 256 - (intOf i).toNat)
  case atStart => exact ⟨0, by omega, rfl, World.ownsRow_nil _ _ _ _, at_new rfl, (Below.refl _ _).alloc (Nat.le_refl _) _, by simp only [World.size_alloc]; omega⟩
  case round =>
    obtain ⟨k, hk, rfl, ho, hg, hb, hsz⟩ := hrel
    by_cases hlt : k < 256
    · have h1 : (k : Int) < 256 := by omega
      have C1 := hide (unhide H1 k hlt)
      have hle := tx_le p k
      cases hp : p k with
      | true =>
        have HT := hide (tx_yes p k hlt hp)
        rw [hp] at C1
        generalize (tx p k).length = n at *
        generalize (tx p k).map bc = xs at *
        go_wp2_with (first
          | (refine wpList_load_row rfl 33 _ rfl w.heap.size rfl 33 C (0, 0) _ hg Tryd.underlying33 rfl (unhide HI) ?_)
          | (go_at_call 74; refine (unhide C1 _).mono ?_; rintro e w1 ⟨rfl, hb1⟩)
          | (at_builtin; refine wpList_append_own _ rfl _ _ 97 rfl (w.heap.size + 1) 5 i0 (.int .u8 0) 1 1 Tryd.underlying97 hi hz0 hz1 hz2 rfl (by decide) _ _ _ rfl ((own_below ho hb1).alloc _) ⟨w1.heap.size, 0, none⟩ 1 1 [.int .u8 (k : Int)] rfl rfl (cell_one_new _ _ _) (by intro u hu; simp at hu; subst hu; rfl) (by unfold maxLen; omega) (by omega) (by have := hb1.size; simp; omega) ?_; intro v' w2 hown' hgrow _))
        have ho1 := (own_below ho hb1).alloc (.cells #[.int .u8 (k : Int)] 5)
        have hb2 := ((bnext hb hb1).alloc (by have := hb1.size; have := hb.size; omega) (.cells #[.int .u8 (k : Int)] 5)).grown hgrow (by simp; have := hb1.size; omega) (fun g hg => by have := ho1.lt g hg; omega)
        have hs2 : w.heap.size + 1 ≤ w2.heap.size := by have := hgrow.size; have := hb1.size; simp at *; omega
        have hg2 : w2.heap[w.heap.size]? = some (.cells C 33 (0, 0)) := (hgrow.block w.heap.size (by simp only [World.size_alloc]; have := hb1.size; omega) (fun e => by have := ho1.lt _ e.symm; omega)).trans (at_old (by have := hb1.size; omega) (row_below hg hb1))
        go_roundw
        case rel => exact ⟨k + 1, by omega, by go_num, by rw [(unhide HT).1, (unhide HT).2]; exact hown', hg2, hb2, hs2⟩
        case measure => simp [intOf]; omega
      | false =>
        have HT := hide (tx_no p k hp)
        rw [hp] at C1
        go_wp2_with (first
          | (refine wpList_load_row rfl 33 _ rfl w.heap.size rfl 33 C (0, 0) _ hg Tryd.underlying33 rfl (unhide HI) ?_)
          | (go_at_call 74; refine (unhide C1 _).mono ?_; rintro e w1 ⟨rfl, hb1⟩))
        go_roundw
        case rel => exact ⟨k + 1, by omega, by go_num, by rw [unhide HT]; exact own_below ho hb1, row_below hg hb1, bnext hb hb1, by have := hb1.size; omega⟩
        case measure => simp [intOf]; omega
    · obtain rfl : k = 256 := by omega
      obtain ⟨l, hl⟩ : ∃ l, l = tx p 256 := ⟨_, rfl⟩
      rw [← hl] at ho
      have hcv := out_string _ _ _ _ ho
      have HL := hide hl
      have HB := hide hb
      clear ho hg hb hl
      go_wp2
      go_ret
      exact ⟨by rw [← unhide HL]; rfl, unhide HB⟩
end Go.Proofs.YtbmngbpillihaaaDoor
