/- What the document's Quoted does. What the document's Digits does. -/
import Derived.Test.YtpphjddljngkmaaGreatDoorQuote4M
import Derived.Laws.IdiomStrings
import Derived.Test.YtpphjddljngkmaaGreatDoorPrintRows4M
import Derived.Laws.Runes
namespace Go.Proofs.YtpphjddljngkmaaGreatDoor
open Go.RowKit

theorem out_bytes (v : Value) (l : List UInt8) (B : Nat) (wr : World) (ho : Bytes wr B v l) :
    (convert 50 9 v).run Tryz.prog wr = .ok (.string ⟨l.toArray⟩) wr := by
  rcases ho.2 with ⟨rfl, h0⟩ | ⟨g, cap, cur, rfl, _, _, _, _, _, _⟩
  · have : l = [] := List.eq_nil_of_length_eq_zero h0
    subst this
    exact run_convert_bytes_nil (P := Tryz.prog) wr 50 5 Tryz.underlying50 Tryz.underlying5 0 0 9 Tryz.underlying9
  · exact run_convert_bytes_back (P := Tryz.prog) wr 50 9 5 ⟨g, 0, none⟩ cap l Tryz.underlying50 Tryz.underlying5 Tryz.underlying9 (fun j hj => World.ownsRow.cells ho rfl j _ (by simp only [List.getElem?_map, List.getElem?_eq_getElem hj, Option.map_some, bc]))
theorem wpl_byte {w : World} {ops : Array Oper} {rest : List Oper} {o : Oper} {a : Act} {Q : Exit → Act → World → Prop} (hgd : o.guard = none) (sl x : Operand)
    (ho : o.op = .call { callee := .builtin .append, args := #[sl, x], argTypes := #[50, 50] })
    (B : Nat) (v : Value) (l : List UInt8) (b : UInt8) (g : Nat) (hs : a.eval sl = v) (hx : a.eval x = .slice (some ⟨g, 0, none⟩) 1 1) (h : Bytes w B v l) (hc : w.cell? ⟨g, 0, none⟩ = some (bc b)) (hB : B ≤ w.heap.size) (hl : l.length + 1 ≤ 100000000)
    (hK : ∀ v' w', Bytes w' B v' (l ++ [b]) → Below B w w' → Kept w w' → wpList Tryz.prog ops Q rest (a.put o.dst v') w') : wpList Tryz.prog ops Q (o :: rest) a w := by
  refine wpList_plain hgd fun K hK' => ?_
  obtain ⟨v', w', hr, h1, h2, h3⟩ := run_byte h hB b ⟨g, 0, none⟩ 1 (by rw [Addr.add_lit]; exact hc) hl o.type
  unfold Oper.wp execOp
  simp only [ho, resolve, invoke, builtin, Sem.run_bind, Sem.run_pure, Result.andThen_ok, List.map_toArray, List.map_cons, List.map_nil, hs, hx, hr]
  exact hK' _ _ (hK v' w' h1 h2 h3)
def dbl (l : List UInt8) : List UInt8 := l.flatMap fun c => if c = 39 then [39, 39] else [c]
theorem dbl_step (s : ByteArray) (k : Nat) (h : k < s.size) : dbl (s.data.toList.take (k + 1)) = dbl (s.data.toList.take k) ++ (if s[k] = 39 then [39, 39] else [s[k]]) := by
  have h' : k < s.data.toList.length := by simpa using h
  unfold dbl
  rw [List.take_succ_eq_append_getElem h', List.flatMap_append]
  simp
  rfl
theorem dbl_len (l : List UInt8) : (dbl l).length ≤ 2 * l.length := by
  unfold dbl
  induction l with
  | nil => simp
  | cons x l ih =>
    rw [List.flatMap_cons, List.length_append, List.length_cons]
    have : (if x = 39 then [39, 39] else [x] : List UInt8).length ≤ 2 := by split <;> simp
    omega
theorem cell_byte {w : World} {b : UInt8} {g : Nat} {t : TypeId} (h : w.heap[g]? = some (.cells #[.int .u8 (b.toNat : Int)] t (0, 0))) : w.cell? ⟨g, 0, none⟩ = some (bc b) := by
  rw [cell_of_row _ _ _ _ _ _ h]; rfl
set_option maxRecDepth 100000 in
set_option maxHeartbeats 1000000 in
theorem rquoted_any (s : ByteArray) (w : World) (hs : s.size ≤ 65536) :
    Calls Tryz.prog 47 #[.string s] w fun e w' => e = .returned (.string (quoteB s)) ∧ Below w.heap.size w w' := by
  have hcv := fun W => run_bytes_of_string (P := Tryz.prog) W 9 50 5 s Tryz.underlying9 Tryz.underlying50 Tryz.underlying5
  go_enter Tryz.func47, Tryz.ntmps47
  go_wp2_with fail
  generalize grownCap w s.size 0 5 = G
  obtain ⟨W0, hW0⟩ : ∃ W0, W0 = (w.alloc (.cells (bytesRow s G) 5 ((bytesRow s G).size, (bytesRow s G).size + 1))).drew := ⟨_, rfl⟩
  rw [← hW0]
  have q2 : W0.heap[w.heap.size]? = some (.cells (bytesRow s G) 5 ((bytesRow s G).size, (bytesRow s G).size + 1)) := by rw [hW0, heap_drew]; exact at_new rfl
  have qb : Below w.heap.size w W0 := by rw [hW0]; exact ((Below.refl _ _).alloc (Nat.le_refl _) _).drew
  have qs : w.heap.size + 1 = W0.heap.size := by rw [hW0]; simp
  have HB := hide (bytesRow_at s G)
  clear hW0 hcv
  generalize bytesRow s G = R at *
  have Q0 := hide (And.intro q2 (And.intro qb qs))
  clear q2 qb qs
  go_loopw [3, 9] (fun v i wr => ∃ k : Nat, k ≤ s.size ∧ i = .int .i64 (k : Int) ∧ Bytes wr (w.heap.size + 1) v (dbl (s.data.toList.take k)) ∧ Below (w.heap.size + 1) W0 wr) (fun _ i _ => s.size - (intOf i).toNat)
  case atStart => exact ⟨0, by omega, rfl, World.ownsRow_nil _ _ _ _, Below.refl _ _⟩
  case round =>
    obtain ⟨k, hk, rfl, hv, hb⟩ := hrel
    rcases Nat.lt_or_ge k s.size with hlt | hge
    · have c2 : wr.cell? ⟨w.heap.size, k, none⟩ = some (.int .u8 (s[k].toNat : Int)) := by
        rw [cell_of_row wr _ _ _ _ _ ((hb.block w.heap.size (by omega)).trans (unhide Q0).1), unhide HB k hlt]; rfl
      have hst := dbl_step s k hlt
      have hln := dbl_len (s.data.toList.take k)
      have hlt2 : (s.data.toList.take k).length ≤ s.size := by rw [List.length_take]; simp; omega
      have HV := hide (And.intro hv (And.intro hb (And.intro hst (show (dbl (s.data.toList.take k)).length + 2 ≤ 200000 by omega))))
      have hsz : w.heap.size + 1 ≤ wr.heap.size := by have := (unhide Q0).2.2; have := hb.size; omega
      clear hv hb hst hln hlt2
      generalize s[k] = x at *
      have hx := UInt8.toNat_lt x
      by_cases h39 : x = 39
      · have e39 : ((x.toNat : Int) == 39) = true := by rw [h39]; rfl
        have HW := hide h39
        clear h39
        go_wp2_with (first | (at_builtin; refine wpl_byte rfl _ _ rfl (w.heap.size + 1) _ _ x wr.heap.size rfl rfl (by exact (unhide HV).1.later ((Below.refl _ _).alloc (Nat.le_refl _) _)) (by exact cell_byte (at_new rfl)) (by simp; omega) (by have := (unhide HV).2.2.2; omega) ?_; intro v1 w1 hv1 hb1 _; have HV1 := hide (And.intro hv1 hb1); have hs1 := hb1.size; clear hv1 hb1) | (at_builtin; refine wpl_byte rfl _ _ rfl (w.heap.size + 1) _ _ x w1.heap.size rfl rfl (by exact (unhide HV1).1.later ((Below.refl _ _).alloc (Nat.le_refl _) _)) (by exact cell_byte (at_new rfl)) (by simp at hs1 ⊢; omega) (by have := (unhide HV).2.2.2; simp; omega) ?_; intro v2 w2 hv2 hb2 _; have HV2 := hide (And.intro hv2 hb2); clear hv2 hb2))
        obtain ⟨hv, hb, hst, -⟩ := unhide HV
        refine ⟨⟨k + 1, by omega, by go_num, ?_, ?_⟩, by simp [intOf]; omega⟩
        · have h := (unhide HV2).1
          rw [hst, if_pos (unhide HW)]
          rw [List.append_assoc] at h
          rw [unhide HW] at h
          exact h
        · exact (((hb.alloc hsz _).trans (unhide HV1).2).alloc (by simp at hs1; omega) _).trans (unhide HV2).2
      · have e39 : ((x.toNat : Int) == 39) = false := by
          rw [beq_eq_false_iff_ne]
          intro e
          apply h39
          apply UInt8.toNat_inj.1
          show x.toNat = 39
          omega
        have HW := hide h39
        clear h39
        go_wp2_with (at_builtin; refine wpl_byte rfl _ _ rfl (w.heap.size + 1) _ _ x wr.heap.size rfl rfl (by exact (unhide HV).1.later ((Below.refl _ _).alloc (Nat.le_refl _) _)) (by exact cell_byte (at_new rfl)) (by simp; omega) (by have := (unhide HV).2.2.2; omega) ?_; intro v1 w1 hv1 hb1 _; have HV1 := hide (And.intro hv1 hb1); clear hv1 hb1)
        obtain ⟨hv, hb, hst, -⟩ := unhide HV
        exact ⟨⟨k + 1, by omega, by go_num, by rw [hst, if_neg (unhide HW)]; exact (unhide HV1).1, (hb.alloc hsz _).trans (unhide HV1).2⟩, by simp [intOf]; omega⟩
    · have hk' : k = s.size := by omega
      obtain ⟨r, hr⟩ : ∃ r, r = (⟨(dbl (s.data.toList.take k)).toArray⟩ : ByteArray) := ⟨_, rfl⟩
      have hcv := out_bytes _ _ _ _ hv
      rw [← hr] at hcv
      have hrs : r = ⟨(dbl s.data.toList).toArray⟩ := by
        rw [hr, hk']
        congr 3
        exact List.take_of_length_le (by simp)
      have hq : quoteB s = ⟨#[39]⟩ ++ r ++ ⟨#[39]⟩ := by
        rw [hrs]
        apply ByteArray.ext
        apply Array.ext'
        simp [quoteB, quoteL, dbl]
      have hsz : (quoteB s).size = r.size + 2 := by rw [hq, ByteArray.size_append, ByteArray.size_append]; show 1 + r.size + 1 = _; omega
      have hsq := quoteB_size s hs
      have g1 : ¬ 9223372036854775807 < 1 + r.size := by omega
      have g2 : ¬ 9223372036854775807 < 1 + r.size + 1 := by omega
      have HQ := hide hq
      have HE := hide (show Below w.heap.size w wr from (unhide Q0).2.1.trans (hb.mono (by omega)))
      clear hr hrs hq hsz hsq hv hb
      go_wp2_with fail
      go_ret
      exact ⟨by rw [unhide HQ]; rfl, unhide HE⟩
end Go.Proofs.YtpphjddljngkmaaGreatDoor

namespace Go.Proofs.YtpphjddljngkmaaGreatDoor
open Go.RowKit

theorem digit_str (u : Nat) (h : u < 10) : Utf8.encode (48 + (u : Int)) = (⟨#[UInt8.ofNat (48 + u)]⟩ : ByteArray) := by
  have : u = 0 ∨ u = 1 ∨ u = 2 ∨ u = 3 ∨ u = 4 ∨ u = 5 ∨ u = 6 ∨ u = 7 ∨ u = 8 ∨ u = 9 := by omega
  rcases this with rfl | rfl | rfl | rfl | rfl | rfl | rfl | rfl | rfl | rfl <;> rfl
theorem decDigits_len : ∀ u : Nat, (Lib.decDigits u).length ≤ u + 1 := by
  intro u
  induction u using Nat.strongRecOn with
  | ind u ih =>
    rw [Lib.decDigits]
    split
    · simp
    · rename_i h
      have := ih (u / 10) (by omega)
      rw [List.length_append, List.length_singleton]
      omega
def DigSays (k : Nat) : Prop := ∀ (n : Nat) (w : World), n < k → n ≤ 1000000 → Calls Tryz.prog 65 #[.int .i64 (n : Int)] w fun e w' => e = .returned (.string ⟨(Lib.decDigits n).toArray⟩) ∧ w' = w
set_option maxRecDepth 100000 in
set_option maxHeartbeats 400000 in
theorem digits_step (k : Nat) (ih : DigSays k) : DigSays (k + 1) := by
  intro n w hn hb
  by_cases h : n < 10
  · have HD := hide (show Lib.decDigits n = [UInt8.ofNat (48 + n)] by rw [Lib.decDigits, dif_pos h])
    have h1 : (n : Int) < 10 := by omega
    have HE := hide (digit_str n h)
    go_enter Tryz.func65, Tryz.ntmps65
    go_wp2_with fail
    go_ret
    exact ⟨by rw [unhide HD]; exact congrArg (fun x => Ending.returned (Value.string x)) (unhide HE), rfl⟩
  · have HD := hide (show Lib.decDigits n = Lib.decDigits (n / 10) ++ [UInt8.ofNat (48 + n % 10)] by rw [Lib.decDigits, dif_neg h])
    have h1 : ¬ (n : Int) < 10 := by omega
    have HE := hide (digit_str (n % 10) (by omega))
    have HI := hide (ih (n / 10) w (by omega) (by omega))
    go_enter Tryz.func65, Tryz.ntmps65
    go_wp2_with fail
    rw [show ((n : Int) / 10) = ((n / 10 : Nat) : Int) from rfl]
    refine (unhide HI).mono ?_
    rintro e w ⟨rfl, rfl⟩
    obtain ⟨d, hd⟩ : ∃ d, d = (⟨(Lib.decDigits (n / 10)).toArray⟩ : ByteArray) := ⟨_, rfl⟩
    rw [← hd]
    have hds : d.size ≤ 1000000 := by
      have := decDigits_len (n / 10)
      rw [hd]
      show (Lib.decDigits (n / 10)).toArray.size ≤ _
      rw [List.size_toArray]; omega
    have HDD := hide hd
    clear hd
    have hen : Utf8.encode (48 + (n : Int) % 10) = (⟨#[UInt8.ofNat (48 + n % 10)]⟩ : ByteArray) := unhide HE
    have HH := hide hen
    obtain ⟨c, hc⟩ : ∃ c, Utf8.encode (48 + (n : Int) % 10) = c := ⟨_, rfl⟩
    have hcs : c.size = 1 := by rw [← hc, hen]; rfl
    have HC := hide hc
    have hg : ¬ 9223372036854775807 < d.size + c.size := by omega
    have HS := hide hcs
    clear hen hcs HE HI
    go_wp2_with fail
    go_ret
    refine ⟨congrArg (fun x => Ending.returned (Value.string x)) (?_ : d ++ c = _), rfl⟩
    rw [unhide HD, unhide HDD, ← unhide HC, unhide HH]
    apply ByteArray.ext
    apply Array.ext'
    simp
theorem digits_all : ∀ k, DigSays k
  | 0 => fun n _ h => absurd h (Nat.not_lt_zero n)
  | k + 1 => digits_step k (digits_all k)
def digB (n : Int) : ByteArray := ⟨(Lib.itoa n).toArray⟩
theorem digits_any (n : Int) (w : World) (h0 : 0 ≤ n) (h1 : n ≤ 65536) : Calls Tryz.prog 65 #[.int .i64 n] w fun e w' => e = .returned (.string (digB n)) ∧ w' = w := by
  obtain ⟨m, rfl⟩ := Int.eq_ofNat_of_zero_le h0
  have h := digits_all (m + 1) m w (by omega) (by omega)
  have e : digB (m : Int) = ⟨(Lib.decDigits m).toArray⟩ := by
    unfold digB Lib.itoa
    rw [if_neg (by omega)]
    rfl
  rw [e]
  exact h
end Go.Proofs.YtpphjddljngkmaaGreatDoor
