/- What is written is read: pieces and alternatives, from texts that are read by themselves. -/
import Derived.Test.YtccnomomdfjpmaaDoorRtAM
namespace Go.Proofs.YtccnomomdfjpmaaDoor
open Go.RowKit

theorem gvF_fuel (s : ByteArray) : ∀ f g p i, i ≤ s.size → s.size < i + f → s.size < i + g → gvF s f p i = gvF s g p i
  | 0, g, p, i, hi, hf, _ => by omega
  | f + 1, 0, p, i, hi, _, hg => by omega
  | f + 1, g + 1, p, i, hi, hf, hg => by
    rw [gvF, gvF]
    by_cases q : gvK (nx s i) = 0
    · rw [if_pos q, if_pos q]
    · rw [if_neg q, if_neg q]
      have hn : nx s i ≠ 0 := fun z => q (by rw [z]; rfl)
      have h3 := nx_in hn
      have hsk := sk_le s i hi
      cases hr : nmP s (sk s i + 1) with
      | error e => rfl
      | ok v =>
        have h4 := nmP_adv s (sk s i + 1) v.1 v.2 (by omega) hr
        exact gvF_fuel s f g _ v.2 h4.2 (by omega) (by omega)
def gv (s : ByteArray) (p : PT) (i : Nat) : Rd PT := gvF s (s.size + 1) p i
theorem gv_end {s : ByteArray} {p : PT} {i : Nat} (h : gvK (nx s i) = 0) : gv s p i = .ok (p, sk s i) := by unfold gv; rw [gvF, if_pos h]
theorem gv_step {s : ByteArray} {p : PT} {i j : Nat} {t : ByteArray} (hi : i ≤ s.size) (h : gvK (nx s i) ≠ 0) (hn : nmP s (sk s i + 1) = .ok (t, j)) : gv s p i = gv s (mkP (gvK (nx s i)) ⟨#[]⟩ 0 t [p]) j := by
  have hx := nx_in (s := s) (i := i) fun z => h (by rw [z]; rfl)
  have hsk := sk_le s i hi
  have h4 := nmP_adv s (sk s i + 1) t j (by omega) hn
  unfold gv
  rw [gvF, if_neg h, hn, bnd_ok]
  exact gvF_fuel s _ _ _ _ h4.2 (by omega) (by omega)
theorem baP_blank {d : Nat} {B : Nat → Rd PT} {s : ByteArray} {i : Nat} (h : bat s i = 32) : baP d B s i = baP d B s (i + 1) := by unfold baP; rw [sk_blank h, nx_blank h]
theorem piP_blank {d : Nat} {B : Nat → Rd PT} {s : ByteArray} {i : Nat} (h : bat s i = 32) : piP d B s i = piP d B s (i + 1) := by unfold piP; rw [baP_blank h]
theorem pcP_blank {d : Nat} {B : Nat → Rd PT} {s : ByteArray} {i : Nat} (h : bat s i = 32) : pcP d B s i = pcP d B s (i + 1) := by unfold pcP; rw [piP_blank h]
/-- Behind pieces, and behind alternatives. -/
def En (s : ByteArray) (j : Nat) : Prop := nx s j = 0 ∨ nx s j = 41
def Ec (s : ByteArray) (j : Nat) : Prop := En s j ∨ nx s j = 124
theorem Ec.gv {s : ByteArray} {j : Nat} (h : Ec s j) : gvK (nx s j) = 0 := by rcases h with (h | h) | h <;> rw [h] <;> rfl
theorem Ec.beg {s : ByteArray} {j : Nat} (h : Ec s j) : begN (nx s j) = false := by rcases h with (h | h) | h <;> rw [h] <;> rfl
theorem En.alt {s : ByteArray} {j : Nat} (h : En s j) : nx s j ≠ 124 := by rcases h with h | h <;> rw [h] <;> decide
theorem beg_gv {b : Nat} (h : begN b = true) : gvK b = 0 ∧ b ≠ 32 := by
  unfold begN at h
  unfold gvK
  constructor
  · by_cases h1 : b = 46
    · subst h1; exact absurd h (by decide)
    · by_cases h2 : b = 36
      · subst h2; exact absurd h (by decide)
      · rw [if_neg h1, if_neg h2]
  · intro e; subst e; exact absurd h (by decide)
/-- Texts with others between. -/
def jn (sep : List UInt8) : List (List UInt8) → List UInt8
  | [] => []
  | [x] => x
  | x :: y :: r => x ++ (sep ++ jn sep (y :: r))
theorem jn_snoc (sep : List UInt8) : ∀ (l : List (List UInt8)) (x : List UInt8), jn sep (l ++ [x]) = jn sep l ++ (if l = [] then [] else sep) ++ x
  | [], x => rfl
  | [a], x => by show a ++ (sep ++ x) = _; simp [jn]
  | a :: b :: l, x => by
    have ih := jn_snoc sep (b :: l) x
    rw [if_neg (by simp)] at ih ⊢
    show a ++ (sep ++ jn sep (b :: l ++ [x])) = (a ++ (sep ++ jn sep (b :: l))) ++ sep ++ x
    rw [ih]
    simp
theorem joinTo_jn (sep : List UInt8) (f : Nat → List UInt8) : ∀ n, joinTo sep f n = jn sep ((List.range n).map f)
  | 0 => rfl
  | n + 1 => by
    rw [joinTo, joinTo_jn sep f n, List.range_succ, List.map_append, List.map_singleton, jn_snoc]
    by_cases h : n = 0
    · subst h; simp
    · rw [if_pos (by omega), if_neg (by simpa using h)]
/-- A piece: what is read of its text, wherever it stands. -/
structure Pie (d : Nat) (B : Nat → Rd PT) (s : ByteArray) (x : List UInt8 × PT) : Prop where
  reads : ∀ i, At s i x.1 → Stp s (i + x.1.length) → piP d B s i = gv s x.2 (i + x.1.length)
  begins : ∃ c r, x.1 = c :: r ∧ begN c.toNat = true
theorem Pie.start {d : Nat} {B : Nat → Rd PT} {s : ByteArray} {x : List UInt8 × PT} (h : Pie d B s x) {i : Nat} {t : List UInt8} (ha : At s i (x.1 ++ t)) : begN (bat s i) = true ∧ bat s i ≠ 32 ∧ gvK (bat s i) = 0 := by
  obtain ⟨c, r, e, hb⟩ := h.begins
  rw [e] at ha
  have := ha.head.1
  rw [this]
  exact ⟨hb, (beg_gv hb).2, (beg_gv hb).1⟩
theorem jn_start (sep : List UInt8) (x : List UInt8) (l : List (List UInt8)) : ∃ t, jn sep (x :: l) = x ++ t := by
  cases l with
  | nil => exact ⟨[], (List.append_nil _).symm⟩
  | cons y r => exact ⟨_, rfl⟩
theorem cats_at {d : Nat} {B : Nat → Rd PT} {s : ByteArray} : ∀ (L : List (List UInt8 × PT)) (x : List UInt8 × PT) (acc : List PT) (f i : Nat), (∀ y ∈ x :: L, Pie d B s y) → At s i (jn [32] ((x :: L).map (·.1))) → Stp s (i + (jn [32] ((x :: L).map (·.1))).length) → Ec s (i + (jn [32] ((x :: L).map (·.1))).length) → s.size < i + f →
    (bnd (piP d B s i) fun p j => pcF d B s f (acc ++ [p]) j) = .ok (acc ++ (x :: L).map (·.2), sk s (i + (jn [32] ((x :: L).map (·.1))).length))
  | [], x, acc, f, i, hp, ha, hs, he, hf => by
    have hx := hp x (by simp)
    obtain ⟨f', rfl⟩ : ∃ f', f = f' + 1 := ⟨f - 1, by have := ha.le; omega⟩
    have hs' : Stp s (i + x.1.length) := hs
    have he' : Ec s (i + x.1.length) := he
    rw [hx.reads i ha hs', gv_end he'.gv, bnd_ok, pcF]
    have e : nx s (sk s (i + x.1.length)) = nx s (i + x.1.length) := nx_sk _ _
    show (if begN (nx s (sk s (i + x.1.length))) = true then _ else _) = _
    rw [e, if_neg (by rw [he'.beg]; decide), sk_sk]
    rfl
  | y :: L, x, acc, f, i, hp, ha, hs, he, hf => by
    have hx := hp x (by simp)
    have hy := hp y (by simp)
    have ha' : At s i (x.1 ++ ([32] ++ jn [32] ((y :: L).map (·.1)))) := ha
    have hlen : (jn [32] ((x :: y :: L).map (·.1))).length = x.1.length + (1 + (jn [32] ((y :: L).map (·.1))).length) := by
      show (x.1 ++ (([32] : List UInt8) ++ jn [32] ((y :: L).map fun z => z.1))).length = _
      simp only [List.length_append, List.length_cons, List.length_nil]
    have h32 : bat s (i + x.1.length) = 32 := ha'.right.head.1
    have hr : At s (i + x.1.length + 1) (jn [32] ((y :: L).map (·.1))) := ha'.right.tail
    obtain ⟨t, ht⟩ := jn_start [32] y.1 (L.map (·.1))
    have hst := hy.start (show At s (i + x.1.length + 1) (y.1 ++ t) by rw [← ht]; exact hr)
    have hn1 : nx s (i + x.1.length) = bat s (i + x.1.length + 1) := by rw [nx_blank h32, nx_here hst.2.1]
    have hk1 : sk s (i + x.1.length) = i + x.1.length + 1 := by rw [sk_blank h32, sk_same hst.2.1]
    obtain ⟨f', rfl⟩ : ∃ f', f = f' + 1 := ⟨f - 1, by have := ha.le; omega⟩
    rw [hx.reads i ha'.left (.inl h32), gv_end (by rw [hn1]; exact hst.2.2), bnd_ok, pcF, hk1]
    rw [nx_here hst.2.1, sk_same hst.2.1, if_pos hst.1]
    have e : i + (jn [32] ((x :: y :: L).map (·.1))).length = i + x.1.length + 1 + (jn [32] ((y :: L).map (·.1))).length := by omega
    rw [e] at hs he ⊢
    have ih := cats_at L y (acc ++ [x.2]) f' (i + x.1.length + 1) (fun z hz => hp z (List.mem_cons_of_mem _ hz)) hr hs he (by omega)
    rw [ih, List.append_assoc]
    rfl
/-- An alternative. -/
structure Alt (d : Nat) (B : Nat → Rd PT) (s : ByteArray) (x : List UInt8 × PT) : Prop where
  reads : ∀ i, At s i x.1 → Stp s (i + x.1.length) → Ec s (i + x.1.length) → pcP d B s i = .ok (x.2, sk s (i + x.1.length))
  begins : ∃ c r, x.1 = c :: r ∧ begN c.toNat = true
theorem alts_at {d : Nat} {B : Nat → Rd PT} {s : ByteArray} : ∀ (L : List (List UInt8 × PT)) (x : List UInt8 × PT) (acc : List PT) (f i : Nat), (∀ y ∈ x :: L, Alt d B s y) → At s i (jn [32, 124, 32] ((x :: L).map (·.1))) → Stp s (i + (jn [32, 124, 32] ((x :: L).map (·.1))).length) → En s (i + (jn [32, 124, 32] ((x :: L).map (·.1))).length) → s.size < i + f →
    (bnd (pcP d B s i) fun p j => alF d B s f (acc ++ [p]) j) = .ok (acc ++ (x :: L).map (·.2), sk s (i + (jn [32, 124, 32] ((x :: L).map (·.1))).length))
  | [], x, acc, f, i, hp, ha, hs, he, hf => by
    have hx := hp x (by simp)
    obtain ⟨f', rfl⟩ : ∃ f', f = f' + 1 := ⟨f - 1, by have := ha.le; omega⟩
    have hs' : Stp s (i + x.1.length) := hs
    have he' : En s (i + x.1.length) := he
    rw [hx.reads i ha hs' (.inl he'), bnd_ok, alF]
    have e : nx s (sk s (i + x.1.length)) = nx s (i + x.1.length) := nx_sk _ _
    show (if nx s (sk s (i + x.1.length)) = 124 then _ else _) = _
    rw [e, if_neg he'.alt, sk_sk]
    rfl
  | y :: L, x, acc, f, i, hp, ha, hs, he, hf => by
    have hx := hp x (by simp)
    have hy := hp y (by simp)
    have ha' : At s i (x.1 ++ ([32, 124, 32] ++ jn [32, 124, 32] ((y :: L).map (·.1)))) := ha
    have hlen : (jn [32, 124, 32] ((x :: y :: L).map (·.1))).length = x.1.length + (3 + (jn [32, 124, 32] ((y :: L).map (·.1))).length) := by
      show (x.1 ++ (([32, 124, 32] : List UInt8) ++ jn [32, 124, 32] ((y :: L).map fun z => z.1))).length = _
      simp only [List.length_append, List.length_cons, List.length_nil]
    have h32 : bat s (i + x.1.length) = 32 := ha'.right.head.1
    have h124 : bat s (i + x.1.length + 1) = 124 := ha'.right.tail.head.1
    have h33 : bat s (i + x.1.length + 1 + 1) = 32 := ha'.right.tail.tail.head.1
    have hr : At s (i + x.1.length + 1 + 1 + 1) (jn [32, 124, 32] ((y :: L).map (·.1))) := ha'.right.tail.tail.tail
    have hn1 : nx s (i + x.1.length) = 124 := by rw [nx_blank h32, nx_here (by omega), h124]
    have hk1 : sk s (i + x.1.length) = i + x.1.length + 1 := by rw [sk_blank h32, sk_same (by omega)]
    obtain ⟨f', rfl⟩ : ∃ f', f = f' + 1 := ⟨f - 1, by have := ha.le; omega⟩
    rw [hx.reads i ha'.left (.inl h32) (.inr hn1), bnd_ok, alF, hk1]
    rw [nx_here (by omega), if_pos h124, sk_same (by omega), pcP_blank h33]
    have e : i + (jn [32, 124, 32] ((x :: y :: L).map (·.1))).length = i + x.1.length + 1 + 1 + 1 + (jn [32, 124, 32] ((y :: L).map (·.1))).length := by omega
    rw [e] at hs he ⊢
    have ih := alts_at L y (acc ++ [x.2]) f' (i + x.1.length + 1 + 1 + 1) (fun z hz => hp z (List.mem_cons_of_mem _ hz)) hr hs he (by omega)
    rw [ih, List.append_assoc]
    rfl
end Go.Proofs.YtccnomomdfjpmaaDoor
