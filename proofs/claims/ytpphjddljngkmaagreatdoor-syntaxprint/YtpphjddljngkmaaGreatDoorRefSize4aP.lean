/- A queue of patterns that is appended to and cut at its head. -/
import Derived.Test.YtpphjddljngkmaaGreatDoorPatSizeP
import Derived.ArgAppend
namespace Go.Proofs.YtpphjddljngkmaaGreatDoor
open Go.RowKit

/-- An entry's cells. -/
def qc (x : PT × Nat) : List Value := [.int .i64 x.1.k, .string x.1.t, .int .i64 x.1.n, .string x.1.nm, .slice x.1.xa x.1.len x.1.cap, .int .i64 (x.2 : Int)]
def qcells (Q : List (PT × Nat)) : List Value := Q.flatMap qc
theorem qcells_len (Q : List (PT × Nat)) : (qcells Q).length = Q.length * 6 := by
  induction Q with
  | nil => rfl
  | cons x Q ih =>
    show (qc x ++ qcells Q).length = _
    rw [List.length_append, ih, List.length_cons]
    show 6 + _ = _
    omega
theorem qcells_snoc (Q : List (PT × Nat)) (x : PT × Nat) : qcells (Q ++ [x]) = qcells Q ++ qc x := by
  unfold qcells
  rw [List.flatMap_append]
  simp
theorem qcells_cons (Q : List (PT × Nat)) (x : PT × Nat) : qcells (x :: Q) = qc x ++ qcells Q := rfl
/-- A queue that lies in memory of the call's own. -/
structure Que (w : World) (B g off cap : Nat) (Q : List (PT × Nat)) : Prop where
  low : B ≤ g
  lt : g < w.heap.size
  fit : Q.length ≤ cap
  most : cap ≤ maxLen
  room : ∀ j, j < cap * 6 → (w.cell? ⟨g, off + j, none⟩).isSome = true ∧ w.frozen? ⟨g, off + j, none⟩ = false
  cells : ∀ j u, (qcells Q)[j]? = some u → w.cell? ⟨g, off + j, none⟩ = some u
theorem Que.later {w w' : World} {B g off cap : Nat} {Q : List (PT × Nat)} (h : Que w B g off cap Q) (hb : Below w.heap.size w w') : Que w' B g off cap Q :=
  ⟨h.low, Nat.lt_of_lt_of_le h.lt hb.size, h.fit, h.most, fun j hj => by
    have := h.room j hj
    have hk := hb.block g h.lt
    rw [World.cell?_of_block (w := w) hk, World.frozen?_of_block (w := w) hk]
    exact this, fun j u hj => (World.cell?_of_block (w := w) (hb.block g h.lt)).trans (h.cells j u hj)⟩
theorem Que.head {w : World} {B g off cap : Nat} {Q : List (PT × Nat)} {T : PT} {d : Nat} (h : Que w B g off cap ((T, d) :: Q)) :
    w.cell? ⟨g, off, none⟩ = some (.int .i64 T.k) ∧ w.cell? ⟨g, off + 1, none⟩ = some (.string T.t) ∧ w.cell? ⟨g, off + 2, none⟩ = some (.int .i64 T.n) ∧ w.cell? ⟨g, off + 3, none⟩ = some (.string T.nm) ∧ w.cell? ⟨g, off + 4, none⟩ = some (.slice T.xa T.len T.cap) ∧ w.cell? ⟨g, off + 5, none⟩ = some (.int .i64 (d : Int)) :=
  ⟨h.cells 0 _ rfl, h.cells 1 _ rfl, h.cells 2 _ rfl, h.cells 3 _ rfl, h.cells 4 _ rfl, h.cells 5 _ rfl⟩
def cutOff (off cap : Nat) : Nat := if cap = 1 then off else off + 6
theorem Que.tail {w : World} {B g off cap : Nat} {Q : List (PT × Nat)} {x : PT × Nat} (h : Que w B g off cap (x :: Q)) : Que w B g (cutOff off cap) (cap - 1) Q := by
  have hf := h.fit
  rw [List.length_cons] at hf
  unfold cutOff
  by_cases hc : cap = 1
  · rw [if_pos hc]
    have hq : Q = [] := List.eq_nil_of_length_eq_zero (by omega)
    subst hq
    exact ⟨h.low, h.lt, by simp, by have := h.most; omega, fun j hj => by omega, fun j u hj => by simp [qcells] at hj⟩
  · rw [if_neg hc]
    refine ⟨h.low, h.lt, by omega, by have := h.most; omega, fun j hj => ?_, fun j u hj => ?_⟩
    · have := h.room (6 + j) (by omega)
      rw [← Nat.add_assoc] at this
      exact this
    · have := h.cells (6 + j) u (by
        rw [qcells_cons, List.getElem?_append_right (by show 6 ≤ _; omega)]
        show (qcells Q)[6 + j - 6]? = _
        rw [show 6 + j - 6 = j by omega]; exact hj)
      rw [← Nat.add_assoc] at this
      exact this
theorem size_one : (Tryz.prog.info? 84).map (·.size) = some 6 := by kernel_rfl
theorem slice_one (g off n cap : Nat) (hn : 1 ≤ n) (w : World) :
    (Instr.sliceAt 85 (.slice (some ⟨g, off, none⟩) n cap) (some (.int .i64 1)) none none).run Tryz.prog w = .ok (.slice (some ⟨g, cutOff off cap, none⟩) (n - 1) (cap - 1)) w := by
  have hs := size_one
  cases hq : Tryz.prog.info? 84 with
  | none => simp [hq] at hs
  | some i =>
    have hz : i.size = 6 := by simpa [hq] using hs
    have h1 : (1 : Int) ≤ (n : Int) := by omega
    have he : Tryz.prog.underlying 85 = some (.slice (Tryz.prog.elem 85)) := by kernel_rfl
    have he2 : Tryz.prog.elem 85 = 84 := by kernel_rfl
    rw [run_sliceAt_slice _ _ _ _ _ _ he, run_slice_l _ _ _ _ _ he .i64 1 (by omega) h1, he2]
    simp only [sizeOf, typeInfo, sliced]
    unfold cutOff
    by_cases hc1 : cap = 1
    · simp [hc1, hq, hz]
    · have : ¬ cap = Int.toNat 1 := by simpa using hc1
      simp [hc1, hq, hz, Addr.add_lit]
theorem info_one : (Tryz.prog.info? 84).map (fun i => (i.zero, i.size, i.bytes)) = some (some (.agg #[.int .i64 0, .string ⟨#[]⟩, .int .i64 0, .string ⟨#[]⟩, .slice none 0 0, .int .i64 0]), 6, 80) := by kernel_rfl
theorem but_setCells (g : Nat) : ∀ (vs : List Value) (o : Nat) (a w : World), But g a w → But g a (w.setCells g o vs)
  | [], _, _, _, h => h
  | v :: vs, o, a, w, h => but_setCells g vs (o + 1) a (w.setCell ⟨g, o, none⟩ v) (h.setCell o v)
/-- What an append makes of a queue. -/
theorem append_que {w : World} {B g off cap : Nat} {Q : List (PT × Nat)} (hq : Que w B g off cap Q) (hB : B ≤ w.heap.size) (x : PT × Nat) (ad : Addr) (c : Nat) (hnews : ∀ j u, (qc x)[j]? = some u → w.cell? (ad.add j) = some u) (hlen : Q.length ≤ 2000000) (ty : TypeId) :
    ∃ g' off' cap' w', (Builtin.append_ #[85, 85] ty #[.slice (some ⟨g, off, none⟩) Q.length cap, .slice (some ad) 1 c]).run Tryz.prog w = .ok (.slice (some ⟨g', off', none⟩) (Q.length + 1) cap') w' ∧
      Que w' B g' off' cap' (Q ++ [x]) ∧ (g' = g ∨ w.heap.size ≤ g') ∧ But g w w' := by
  have hinf := info_one
  cases hi : Tryz.prog.info? 84 with
  | none => simp [hi] at hinf
  | some i =>
    simp only [hi, Option.map_some, Option.some.injEq, Prod.mk.injEq] at hinf
    obtain ⟨hz, hsz, hby⟩ := hinf
    have hqc : (qc x).length = 1 * i.size := by rw [hsz]; rfl
    have h1c : ∀ u ∈ qc x, u.oneCell' = true := by
      intro u hu
      simp only [qc, List.mem_cons, List.not_mem_nil, or_false] at hu
      rcases hu with rfl | rfl | rfl | rfl | rfl | rfl <;> rfl
    by_cases hroom : Q.length + 1 ≤ cap
    · have hin : ∀ j, j < (qc x).length → (w.cell? ⟨g, off + Q.length * i.size + j, none⟩).isSome = true ∧ w.frozen? ⟨g, off + Q.length * i.size + j, none⟩ = false := by
        intro j hj
        have h6 : j < 6 := hj
        rw [hsz, Nat.add_assoc]
        exact hq.room (Q.length * 6 + j) (by omega)
      have hr := run_append_room_cells (P := Tryz.prog) w 85 ty 84 i Tryz.underlying85 hi g off Q.length cap ad 1 c (qc x) hqc hnews h1c hroom (fun j hj => (hin j hj).1) (fun j hj => (hin j hj).2)
      have hcells : ∀ j, (w.setCells g (off + Q.length * i.size) (qc x)).cell? ⟨g, off + j, none⟩ = if Q.length * 6 ≤ j ∧ j < Q.length * 6 + 6 then (qc x)[j - Q.length * 6]? else w.cell? ⟨g, off + j, none⟩ := by
        intro j
        by_cases h : Q.length * 6 ≤ j ∧ j < Q.length * 6 + 6
        · rw [if_pos h]
          have hj : j - Q.length * 6 < (qc x).length := by show _ < 6; omega
          have := World.cell?_setCells_in g (qc x) (off + Q.length * i.size) w (fun j hj => (hin j hj).1) (j - Q.length * 6) hj
          rw [show off + Q.length * i.size + (j - Q.length * 6) = off + j by rw [hsz]; omega] at this
          rw [this, List.getElem?_eq_getElem hj]
        · rw [if_neg h]
          refine World.cell?_setCells_out g (qc x) (off + Q.length * i.size) w _ fun _ _ => ?_
          show off + j < off + Q.length * i.size ∨ off + Q.length * i.size + 6 ≤ off + j
          rw [hsz]; omega
      have hbut := but_setCells g (qc x) (off + Q.length * i.size) w w (But.refl g w)
      refine ⟨g, off, cap, _, hr, ⟨hq.low, Nat.lt_of_lt_of_le hq.lt hbut.size, by rw [List.length_append]; exact hroom, hq.most, fun j hj => ?_, fun j u hj => ?_⟩, .inl rfl, ?_⟩
      · rw [hcells, World.frozen?_setCells]
        refine ⟨?_, (hq.room j hj).2⟩
        split
        · rename_i h
          rw [List.getElem?_eq_getElem (by show _ < 6; omega)]; rfl
        · exact (hq.room j hj).1
      · rw [hcells]
        rw [qcells_snoc] at hj
        have hl := qcells_len Q
        by_cases h : j < Q.length * 6
        · rw [if_neg (by omega)]
          rw [List.getElem?_append_left (by omega)] at hj
          exact hq.cells j u hj
        · rw [List.getElem?_append_right (by omega), hl] at hj
          have : j - Q.length * 6 < 6 := (List.getElem?_eq_some_iff.1 hj).1
          rw [if_pos (by omega)]
          exact hj
      · exact hbut
    · have hcap : cap = Q.length := by have := hq.fit; omega
      obtain ⟨v', w', hr, ho, hg⟩ := run_append_arg_grows (P := Tryz.prog) w 85 ty 84 i _ 6 80 Tryz.underlying85 hi hz hsz hby rfl (by decide) ⟨g, off, none⟩ Q.length cap (qcells Q) (qcells_len Q) (fun j u hj => by rw [Addr.add_lit]; exact hq.cells j u hj) ad 1 c (qc x) rfl hnews (by omega) (by unfold maxLen; omega) (by omega)
      have hblk : ∀ k, k < w.heap.size → w'.heap[k]? = w.heap[k]? := fun k hk => hg.block k hk (by simp)
      rcases ho.2 with ⟨_, h0⟩ | ⟨g', cap', cur, rfl, hg1, hg2, hg3, hg4, hg5, hg6⟩
      · omega
      · have hlt : g' < w'.heap.size := (Array.getElem?_eq_some_iff.1 hg2).1
        have hcell : ∀ j, w'.cell? ⟨g', 0 + j, none⟩ = cur[j]? := fun j => by rw [Nat.zero_add, cell_of_row _ _ _ _ _ _ hg2]
        refine ⟨g', 0, cap', w', hr, ⟨by omega, hlt, by rw [List.length_append]; exact hg3, hg4, fun j hj => ?_, fun j u hj => ?_⟩, .inr ?_, ⟨hg.os, hg.tape, hg.output, hg.size, fun k hk _ => hblk k hk⟩⟩
        · rw [hcell]
          refine ⟨?_, ?_⟩
          · rw [Array.getElem?_eq_getElem (by omega)]; rfl
          · rw [Nat.zero_add]; exact frozen_of_row w' g' j _ _ hg2
        · rw [hcell]
          rw [qcells_snoc, ← hg6, List.getElem?_take] at hj
          split at hj
          · rw [← hj, Array.getElem?_toList]
          · cases hj
        · exact hg1
theorem wpList_append_que (w : World) {ops : Array Oper} {rest : List Oper} {o : Oper} {a : Act} {P' : Exit → Act → World → Prop} (hg : o.guard = none) (s x : Operand)
    (hop : o.op = Op.call { callee := Callee.builtin Builtin.append, args := #[s, x], argTypes := #[85, 85] })
    (B g off cap : Nat) (Q : List (PT × Nat)) (n : Nat) (hn : Q.length = n) (hs : a.eval s = .slice (some ⟨g, off, none⟩) n cap) (hq : Que w B g off cap Q) (hB : B ≤ w.heap.size) (y : PT × Nat) (ad : Addr) (c : Nat) (hx : a.eval x = .slice (some ad) 1 c)
    (hnews : ∀ j u, (qc y)[j]? = some u → w.cell? (ad.add j) = some u) (hlen : Q.length ≤ 2000000)
    (hK : ∀ g' off' cap' w', Que w' B g' off' cap' (Q ++ [y]) → (g' = g ∨ w.heap.size ≤ g') → But g w w' → wpList Tryz.prog ops P' rest (a.put o.dst (.slice (some ⟨g', off', none⟩) (n + 1) cap')) w') :
    wpList Tryz.prog ops P' (o :: rest) a w := by
  refine wpList_plain hg fun K hK' => ?_
  subst hn
  obtain ⟨g', off', cap', w', hr, h1, h2, h3⟩ := append_que hq hB y ad c hnews hlen o.type
  unfold Oper.wp
  simp [execOp, hop, resolve, invoke, builtin, hs, hx, hr, Result.andThen]
  exact hK' _ _ (hK g' off' cap' w' h1 h2 h3)
/-- What a queue comes to. -/
def qsum : List (PT × Nat) → Nat
  | [] => 0
  | x :: Q => x.1.cnt + qsum Q
def qmax : List (PT × Nat) → Nat
  | [] => 0
  | x :: Q => max (x.2 + x.1.dep - 1) (qmax Q)
theorem qsum_append (a b : List (PT × Nat)) : qsum (a ++ b) = qsum a + qsum b := by
  induction a with
  | nil => simp [qsum]
  | cons x a ih => simp only [List.cons_append, qsum, ih]; omega
theorem qmax_append (a b : List (PT × Nat)) : qmax (a ++ b) = max (qmax a) (qmax b) := by
  induction a with
  | nil => simp [qmax]
  | cons x a ih => simp only [List.cons_append, qmax, ih]; omega
theorem qlen_le (Q : List (PT × Nat)) : Q.length ≤ qsum Q := by
  induction Q with
  | nil => simp [qsum]
  | cons x Q ih => have := x.1.cnt_pos; simp only [List.length_cons, qsum]; omega
/-- The first kids of a node, a depth further down. -/
def kidsTo (T : PT) (d : Nat) : Nat → List (PT × Nat)
  | 0 => []
  | k + 1 => kidsTo T d k ++ [(T.kid k, d)]
theorem kidsTo_sum (T : PT) (d : Nat) : ∀ k, qsum (kidsTo T d k) = sumTo (fun i => (T.kid i).cnt) k
  | 0 => rfl
  | k + 1 => by rw [kidsTo, qsum_append, kidsTo_sum T d k]; simp [qsum, sumTo]
theorem kidsTo_max (T : PT) (d : Nat) : ∀ k, max d (qmax (kidsTo T (d + 1) k)) = d + maxTo (fun i => (T.kid i).dep) k
  | 0 => by simp [kidsTo, qmax, maxTo]
  | k + 1 => by
    have := kidsTo_max T d k
    have hp := (T.kid k).dep_pos
    rw [kidsTo, qmax_append]
    simp only [qmax, maxTo]
    omega
theorem kidsTo_len (T : PT) (d : Nat) : ∀ k, (kidsTo T d k).length = k
  | 0 => rfl
  | k + 1 => by rw [kidsTo, List.length_append, kidsTo_len T d k]; rfl
end Go.Proofs.YtpphjddljngkmaaGreatDoor
