/- What a right node has: plain facts. What is written is read: patterns. -/
import Derived.Test.YtccnomomdfjpmaaDoorPatBelowP
import Derived.Maps.AppendAt
import Derived.Test.YtccnomomdfjpmaaDoorRtBP
namespace Go.Proofs.YtccnomomdfjpmaaDoor
open Go.RowKit

theorem firstTo_zero {f : Nat → Int} : ∀ {n : Nat}, firstTo f n = 0 → ∀ i, i < n → f i = 0
  | 0, _, i, hi => absurd hi (Nat.not_lt_zero i)
  | n + 1, h, i, hi => by
    unfold firstTo at h
    split at h
    · rename_i h0
      rcases Nat.lt_or_ge i n with h1 | h1
      · exact firstTo_zero h0 i h1
      · rw [show i = n by omega]; exact h
    · rename_i h0
      exact absurd h h0
theorem bad_zero {T : PT} (h : T.bad = 0) : errN T = 0 ∧ ∀ i, i < T.len → (T.kid i).bad = 0 := by
  rw [T.bad_eq] at h
  split at h
  · rename_i h0
    exact ⟨h0, firstTo_zero h⟩
  · rename_i h0
    exact absurd h h0
theorem named_zero {T : PT} (h : errN T = 0) (hk : 21 ≤ T.k ∧ T.k ≤ 24) : T.nm.size ≤ 16 := by
  have hn : named T.nm = true := by
    cases hq : named T.nm with
    | true => rfl
    | false =>
      have : errN T = 7 := by
        have e : hasK T.k = 3 := by unfold hasK; rw [if_neg (by omega), if_neg (by omega), if_pos hk]
        unfold errN; rw [if_neg (by omega), if_neg (by omega), if_neg (by omega), if_neg (by omega), if_pos ⟨e, hq⟩]
      omega
  unfold named at hn
  simp at hn
  exact hn.1
/-- What a right node has. -/
theorem right_node {T : PT} (h : errN T = 0) : 1 ≤ T.k ∧ T.k ≤ 24 ∧ (hasK T.k = 1 → T.t.size ≤ 65536) ∧ (hasK T.k = 2 → 0 ≤ T.n ∧ T.n ≤ 65536) ∧ (hasK T.k = 3 → named T.nm = true) ∧ leastK T.k ≤ T.len ∧ (T.len : Int) ≤ mostK T.k := by
  unfold errN at h
  split at h
  · omega
  · split at h
    · omega
    · split at h
      · omega
      · split at h
        · omega
        · split at h
          · omega
          · split at h
            · omega
            · rename_i h1 h2 h3 h4 h5 h6
              refine ⟨by omega, by omega, fun x => by omega, fun x => by omega, fun x => ?_, by omega, by omega⟩
              cases hn : named T.nm with
              | true => rfl
              | false => exact absurd ⟨x, hn⟩ h5
end Go.Proofs.YtccnomomdfjpmaaDoor

namespace Go.Proofs.YtccnomomdfjpmaaDoor
open Go.RowKit

/-- A pattern with what its kinds have alone, wherever it lies. -/
def PT.bar : PT → PT
  | .node k t n nm _ _ _ _ _ kids => mkP k (if hasK k = 1 then t else ⟨#[]⟩) (if hasK k = 2 then n else 0) (if hasK k = 3 then nm else ⟨#[]⟩) (List.ofFn fun i => PT.bar (kids i))
theorem PT.bar_eq (T : PT) : T.bar = mkP T.k (if hasK T.k = 1 then T.t else ⟨#[]⟩) (if hasK T.k = 2 then T.n else 0) (if hasK T.k = 3 then T.nm else ⟨#[]⟩) (T.lst.map PT.bar) := by
  obtain ⟨k, t, n, nm, xa, b, o, len, cap, kids⟩ := T
  show mkP k _ _ _ (List.ofFn fun i => PT.bar (kids i)) = mkP k _ _ _ ((List.ofFn kids).map PT.bar)
  rw [List.map_ofFn]
  rfl
theorem lst_range (T : PT) : T.lst = (List.range T.len).map T.kid := by
  apply List.ext_getElem?
  intro i
  by_cases h : i < T.len
  · rw [PT.lst_at h, List.getElem?_map, List.getElem?_range h]; rfl
  · rw [List.getElem?_eq_none (by rw [PT.lst_len]; omega), List.getElem?_eq_none (by simp; omega)]
/-- A pattern's text where pieces stand, and where alternatives stand. -/
def PT.pie (T : PT) : List UInt8 := inB (decide (T.k = 19) || decide (T.k = 18)) T.txt
def PT.alt (T : PT) : List UInt8 := inB (decide (T.k = 19)) T.txt
def Bf (s : ByteArray) : Nat → Nat → Rd PT
  | 0 => fun j => .error (0, j)
  | d + 1 => alD s d
theorem alD_eq (s : ByteArray) (d i : Nat) : alD s d i = alP d (Bf s d) s i := by cases d <;> rfl
theorem pcP_as {d : Nat} {B : Nat → Rd PT} {s : ByteArray} {i : Nat} : pcP d B s i = bnd (bnd (piP d B s i) fun p j => pcF d B s (s.size + 1) ([] ++ [p]) j) fun l e => .ok (togP 18 l, e) := by
  unfold pcP
  cases piP d B s i <;> rfl
theorem alP_as {d : Nat} {B : Nat → Rd PT} {s : ByteArray} {i : Nat} : alP d B s i = bnd (bnd (pcP d B s i) fun p j => alF d B s (s.size + 1) ([] ++ [p]) j) fun l e => .ok (togP 19 l, e) := by
  unfold alP
  cases pcP d B s i <;> rfl
theorem jn_begin {sep : List UInt8} {x : List UInt8} {l : List (List UInt8)} (h : ∃ c r, x = c :: r ∧ begN c.toNat = true) : ∃ c r, jn sep (x :: l) = c :: r ∧ begN c.toNat = true := by
  obtain ⟨c, r, e, hb⟩ := h
  obtain ⟨t, ht⟩ := jn_start sep x l
  exact ⟨c, r ++ t, by rw [ht, e]; rfl, hb⟩
/-- Pieces make an alternative. -/
theorem alt_of {d : Nat} {B : Nat → Rd PT} {s : ByteArray} (x : List UInt8 × PT) (L : List (List UInt8 × PT)) (h : ∀ y ∈ x :: L, Pie d B s y) : Alt d B s (jn [32] ((x :: L).map (·.1)), togP 18 ((x :: L).map (·.2))) :=
  ⟨fun i ha hs he => by rw [pcP_as, cats_at L x [] (s.size + 1) i h ha hs he (by omega), bnd_ok]; rfl, jn_begin (h x (by simp)).begins⟩
/-- Alternatives, to the end. -/
theorem all_of {d : Nat} {s : ByteArray} (x : List UInt8 × PT) (L : List (List UInt8 × PT)) (h : ∀ y ∈ x :: L, Alt d (Bf s d) s y) {i : Nat} (ha : At s i (jn [32, 124, 32] ((x :: L).map (·.1)))) (hs : Stp s (i + (jn [32, 124, 32] ((x :: L).map (·.1))).length)) (he : En s (i + (jn [32, 124, 32] ((x :: L).map (·.1))).length)) :
    alD s d i = .ok (togP 19 ((x :: L).map (·.2)), sk s (i + (jn [32, 124, 32] ((x :: L).map (·.1))).length)) := by
  rw [alD_eq, alP_as, alts_at L x [] (s.size + 1) i h ha hs he (by omega), bnd_ok]; rfl
/-- What is read to the end, in brackets. -/
def All (s : ByteArray) (d : Nat) (x : List UInt8 × PT) : Prop := ∀ i, At s i x.1 → Stp s (i + x.1.length) → En s (i + x.1.length) → alD s d i = .ok (x.2, sk s (i + x.1.length))
theorem par_at {s : ByteArray} {d : Nat} {x : List UInt8 × PT} (h : All s d x) {i : Nat} (ha : At s i (40 :: x.1 ++ [41])) : parP (d + 1) (Bf s (d + 1)) s i = .ok (x.2, i + x.1.length + 2) := by
  have ha' : At s i ([40] ++ (x.1 ++ [41])) := ha
  have h40 : bat s i = 40 := ha'.head.1
  have h1 := ha'.right
  have h41 : bat s (i + 1 + x.1.length) = 41 := h1.right.head.1
  have hn : nx s (i + 1 + x.1.length) = 41 := by rw [nx_here (by omega), h41]
  have hr := h (i + 1) h1.left (.inr (.inl h41)) (.inr hn)
  unfold parP
  rw [show takP s 40 i = .ok ((), i + 1) by unfold takP; rw [nx_here (by omega), h40, if_pos rfl, sk_same (by omega)], bnd_ok, if_neg (by omega)]
  show bnd (alD s d (i + 1)) _ = _
  rw [hr, bnd_ok, sk_same (by omega), show takP s 41 (i + 1 + x.1.length) = .ok ((), i + 1 + x.1.length + 1) by unfold takP; rw [hn, if_pos rfl, sk_same (by omega)], bnd_ok]
  congr 2
  omega
theorem bra_at {s : ByteArray} {d : Nat} {x : List UInt8 × PT} (h : All s d x) : Pie (d + 1) (Bf s (d + 1)) s (40 :: x.1 ++ [41], x.2) :=
  ⟨fun i ha hs => by
    have h40 : bat s i = 40 := (At.head (l := x.1 ++ [41]) ha).1
    unfold piP baP
    rw [nx_here (by omega), h40, if_neg (by decide), if_pos rfl, sk_same (by omega), par_at h ha, bnd_ok]
    show gv s x.2 (i + x.1.length + 2) = gv s x.2 (i + (40 :: x.1 ++ [41]).length)
    congr 1
    simp; omega, ⟨40, x.1 ++ [41], rfl, rfl⟩⟩
theorem letter_beg {b : Nat} (h : letterN b = true) : begN b = true ∧ b ≠ 32 ∧ b ≠ 39 ∧ b ≠ 40 ∧ b ≠ 64 ∧ b ≠ 42 := by
  have := of_decide_eq_true h
  refine ⟨by unfold begN; rw [h]; rfl, ?_, ?_, ?_, ?_, ?_⟩ <;> omega
/-- A word, and what it makes. -/
theorem word_piece {d : Nat} {B : Nat → Rd PT} {s : ByteArray} {k : Nat} (hk : (2 ≤ k ∧ k ≤ 17) ∨ k = 20) {tl : List UInt8} {p : PT} (h : ∀ i, At s i ((wordK k).data.toList ++ tl) → Stp s (i + ((wordK k).data.toList ++ tl).length) → wdE s i = i + (wordK k).size → woP d B s i = .ok (p, i + ((wordK k).data.toList ++ tl).length)) (ht : ∀ c r, tl = c :: r → wordN c.toNat = false) : Pie d B s ((wordK k).data.toList ++ tl, p) := by
  obtain ⟨hw, c, r, hc, hl⟩ := wordK_all k hk
  have hsz : (wordK k).data.toList.length = (wordK k).size := by simp
  refine ⟨fun i ha hs => ?_, c, r ++ tl, by show (wordK k).data.toList ++ tl = _; rw [hc]; rfl, (letter_beg hl).1⟩
  have ha' : At s i ((wordK k).data.toList ++ tl) := ha
  have ha2 := ha'
  rw [hc] at ha2
  have hb : bat s i = c.toNat := ha2.head.1
  obtain ⟨-, n32, n39, n40, n64, n42⟩ := letter_beg hl
  have hnw : wordN (bat s (i + (wordK k).data.toList.length)) = false := by
    cases tl with
    | nil => have : Stp s (i + (wordK k).data.toList.length) := by simpa using hs
             exact this.word
    | cons c' r' => rw [ha'.right.head.1]; exact ht c' r' rfl
  have hE : wdE s i = i + (wordK k).size := by
    rw [← hsz]
    exact pas_run _ i (fun j hj => ⟨by have := ha'.left.le; omega, by rw [ha'.left.get hj]; exact hw _ (List.getElem_mem hj)⟩) hnw
  unfold piP baP
  rw [nx_here (by omega), hb, if_neg n39, if_neg n40, if_neg n64, if_neg n42, if_pos hl, sk_same (by omega), h i ha' hs hE, bnd_ok]
  rfl
theorem bracket_tail {c : UInt8} (h : c = 40) : wordN c.toNat = false := by subst h; rfl
theorem kind_at {s : ByteArray} {k i : Nat} (hk : (2 ≤ k ∧ k ≤ 17) ∨ k = 20) {tl : List UInt8} (ha : At s i ((wordK k).data.toList ++ tl)) : kindW (s.extract i (i + (wordK k).size)) = k := by
  have hsz : (wordK k).data.toList.length = (wordK k).size := by simp
  have := extract_at ha.left
  rw [hsz] at this
  rw [this]
  exact kindW_word k hk
theorem num_piece {d : Nat} {B : Nat → Rd PT} {s : ByteArray} {k : Nat} (hk : (2 ≤ k ∧ k ≤ 17) ∨ k = 20) (h2 : hasK (k : Int) = 2) {n : Int} (h0 : 0 ≤ n) (hn : n ≤ 65536) : Pie d B s ((wordK k).data.toList ++ (40 :: Lib.itoa n ++ [41]), mkP k ⟨#[]⟩ n ⟨#[]⟩ []) := by
  have hk0 : k ≠ 0 := by omega
  have hk20 : k ≠ 20 := by rintro rfl; exact absurd h2 (by decide)
  have hsz : (wordK k).data.toList.length = (wordK k).size := by simp
  refine word_piece hk (fun i ha hs hE => ?_) (fun c r e => bracket_tail (by cases e; rfl))
  have h1 := ha.right
  rw [hsz] at h1
  have h40 : bat s (i + (wordK k).size) = 40 := h1.head.1
  have h3 : At s (i + (wordK k).size + 1) (Lib.itoa n ++ [41]) := h1.tail
  have h41 : bat s (i + (wordK k).size + 1 + (Lib.itoa n).length) = 41 := h3.right.head.1
  unfold woP
  rw [hE, kind_at hk ha, if_neg hk0, if_neg hk20, if_pos h2]
  rw [show takP s 40 (i + (wordK k).size) = .ok ((), i + (wordK k).size + 1) by unfold takP; rw [nx_here (by omega), h40, if_pos rfl, sk_same (by omega)], bnd_ok]
  rw [nuP_at h0 hn h3.left (.inr (.inl h41)), bnd_ok]
  rw [show takP s 41 (i + (wordK k).size + 1 + (Lib.itoa n).length) = .ok ((), i + (wordK k).size + 1 + (Lib.itoa n).length + 1) by unfold takP; rw [nx_here (by omega), h41, if_pos rfl, sk_same (by omega)], bnd_ok]
  rw [show ((n.toNat : Nat) : Int) = n by omega]
  congr 2
  simp; omega
theorem text_piece {d : Nat} {B : Nat → Rd PT} {s : ByteArray} {k : Nat} (hk : (2 ≤ k ∧ k ≤ 17) ∨ k = 20) (h1 : hasK (k : Int) = 1) {t : ByteArray} (ht : t.size ≠ 0) : Pie d B s ((wordK k).data.toList ++ (40 :: quoteL t.data.toList ++ [41]), mkP k t 0 ⟨#[]⟩ []) := by
  have hk0 : k ≠ 0 := by omega
  have hk20 : k ≠ 20 := by rintro rfl; exact absurd h1 (by decide)
  have hsz : (wordK k).data.toList.length = (wordK k).size := by simp
  refine word_piece hk (fun i ha hs hE => ?_) (fun c r e => bracket_tail (by cases e; rfl))
  have h1' := ha.right
  rw [hsz] at h1'
  have h40 : bat s (i + (wordK k).size) = 40 := h1'.head.1
  have h3 : At s (i + (wordK k).size + 1) (quoteL t.data.toList ++ [41]) := h1'.tail
  have h41 : bat s (i + (wordK k).size + 1 + (quoteL t.data.toList).length) = 41 := h3.right.head.1
  unfold woP
  rw [hE, kind_at hk ha, if_neg hk0, if_neg hk20, if_neg (by rw [h1]; decide), if_pos h1]
  rw [show takP s 40 (i + (wordK k).size) = .ok ((), i + (wordK k).size + 1) by unfold takP; rw [nx_here (by omega), h40, if_pos rfl, sk_same (by omega)], bnd_ok]
  rw [fiP_at h3.left ht (.inr (.inl h41)), bnd_ok]
  rw [show takP s 41 (i + (wordK k).size + 1 + (quoteL t.data.toList).length) = .ok ((), i + (wordK k).size + 1 + (quoteL t.data.toList).length + 1) by unfold takP; rw [nx_here (by omega), h41, if_pos rfl, sk_same (by omega)], bnd_ok]
  congr 2
  simp; omega
theorem leaf_piece {d : Nat} {B : Nat → Rd PT} {s : ByteArray} {k : Nat} (hk : 12 ≤ k ∧ k ≤ 17) : Pie d B s ((wordK k).data.toList ++ [], mkP k ⟨#[]⟩ 0 ⟨#[]⟩ []) := by
  have hk' : (2 ≤ k ∧ k ≤ 17) ∨ k = 20 := .inl (by omega)
  have h0 : hasK (k : Int) = 0 := by unfold hasK; rw [if_neg (by omega), if_neg (by omega), if_neg (by omega)]
  have hsz : (wordK k).data.toList.length = (wordK k).size := by simp
  refine word_piece hk' (fun i ha hs hE => ?_) (fun c r e => by cases e)
  unfold woP
  rw [hE, kind_at hk' ha, if_neg (by omega), if_neg (by omega), if_neg (by rw [h0]; decide), if_neg (by rw [h0]; decide), List.append_nil, hsz]
theorem arb_piece {d : Nat} {s : ByteArray} {x : List UInt8 × PT} (h : All s d x) : Pie (d + 1) (Bf s (d + 1)) s ((wordK 20).data.toList ++ (40 :: x.1 ++ [41]), mkP 20 ⟨#[]⟩ 0 ⟨#[]⟩ [x.2]) := by
  have hk' : (2 ≤ 20 ∧ 20 ≤ 17) ∨ 20 = 20 := .inr rfl
  have hsz : (wordK 20).data.toList.length = (wordK 20).size := by simp
  refine word_piece hk' (fun i ha hs hE => ?_) (fun c r e => bracket_tail (by cases e; rfl))
  have h1 := ha.right
  rw [hsz] at h1
  unfold woP
  rw [hE, kind_at hk' ha, if_neg (by decide), if_pos rfl, par_at h h1, bnd_ok]
  congr 2
  simp; omega
theorem lit_piece {d : Nat} {B : Nat → Rd PT} {s : ByteArray} {t : ByteArray} : Pie d B s (quoteL t.data.toList, mkP 1 t 0 ⟨#[]⟩ []) :=
  ⟨fun i ha hs => by
    have h39 : bat s i = 39 := (At.head (l := _) ha).1
    unfold piP baP
    rw [nx_here (by omega), h39, if_pos rfl, sk_same (by omega), qtP_at ha hs, bnd_ok, bnd_ok]
    rfl, ⟨39, _, rfl, rfl⟩⟩
theorem name_piece {d : Nat} {B : Nat → Rd PT} {s : ByteArray} {nm : ByteArray} (hn : named nm = true) {c : UInt8} {k : Int} (hc : (c = 64 ∧ k = 23) ∨ (c = 42 ∧ k = 24)) : Pie d B s (c :: nm.data.toList, mkP k ⟨#[]⟩ 0 nm []) :=
  ⟨fun i ha hs => by
    have hb : bat s i = c.toNat := ha.head.1
    have hlen : (c :: nm.data.toList).length = nm.size + 1 := by simp
    have hs' : Stp s (i + 1 + nm.size) := by
      have : Stp s (i + (c :: nm.data.toList).length) := hs
      rw [hlen, show i + (nm.size + 1) = i + 1 + nm.size by omega] at this
      exact this
    have hr := nmP_at hn ha.tail hs'
    unfold piP baP
    rcases hc with ⟨rfl, rfl⟩ | ⟨rfl, rfl⟩
    · have hb' : bat s i = 64 := hb
      rw [nx_here (by omega), hb', if_neg (by decide), if_neg (by decide), if_pos rfl, sk_same (by omega), hr, bnd_ok, bnd_ok]
      show gv s _ (i + 1 + nm.size) = gv s _ (i + (64 :: nm.data.toList).length)
      rw [show i + (64 :: nm.data.toList).length = i + 1 + nm.size by simp; omega]
    · have hb' : bat s i = 42 := hb
      rw [nx_here (by omega), hb', if_neg (by decide), if_neg (by decide), if_neg (by decide), if_pos rfl, sk_same (by omega), hr, bnd_ok, bnd_ok]
      show gv s _ (i + 1 + nm.size) = gv s _ (i + (42 :: nm.data.toList).length)
      rw [show i + (42 :: nm.data.toList).length = i + 1 + nm.size by simp; omega], ⟨c, _, rfl, by rcases hc with ⟨rfl, _⟩ | ⟨rfl, _⟩ <;> rfl⟩⟩
theorem gift_piece {d : Nat} {B : Nat → Rd PT} {s : ByteArray} {nm : ByteArray} (hn : named nm = true) {x : List UInt8 × PT} (hx : Pie d B s x) {c : UInt8} {k : Int} (hc : (c = 46 ∧ k = 21) ∨ (c = 36 ∧ k = 22)) : Pie d B s (x.1 ++ [32, c, 32] ++ nm.data.toList, mkP k ⟨#[]⟩ 0 nm [x.2]) := by
  obtain ⟨c0, r0, e0, hb0⟩ := hx.begins
  refine ⟨fun i ha hs => ?_, c0, r0 ++ [32, c, 32] ++ nm.data.toList, by show x.1 ++ _ ++ _ = _; rw [e0]; rfl, hb0⟩
  have ha' : At s i (x.1 ++ ([32, c, 32] ++ nm.data.toList)) := by rw [← List.append_assoc]; exact ha
  have h32 : bat s (i + x.1.length) = 32 := ha'.right.head.1
  have hcb : bat s (i + x.1.length + 1) = c.toNat := ha'.right.tail.head.1
  have h33 : bat s (i + x.1.length + 1 + 1) = 32 := ha'.right.tail.tail.head.1
  have hnm : At s (i + x.1.length + 1 + 1 + 1) nm.data.toList := ha'.right.tail.tail.tail
  have hlen : (x.1 ++ [32, c, 32] ++ nm.data.toList).length = x.1.length + 3 + nm.size := by simp; omega
  have hs' : Stp s (i + x.1.length + 1 + 1 + 1 + nm.size) := by
    have : Stp s (i + (x.1 ++ [32, c, 32] ++ nm.data.toList).length) := hs
    rw [hlen, show i + (x.1.length + 3 + nm.size) = i + x.1.length + 1 + 1 + 1 + nm.size by omega] at this
    exact this
  have hc2 : gvK c.toNat = k.toNat ∧ k = (gvK c.toNat : Int) ∧ c.toNat ≠ 32 ∧ gvK c.toNat ≠ 0 := by
    rcases hc with ⟨rfl, rfl⟩ | ⟨rfl, rfl⟩ <;> decide
  have hnx : nx s (i + x.1.length) = c.toNat := by rw [nx_blank h32, nx_here (by rw [hcb]; exact hc2.2.2.1), hcb]
  have hsk : sk s (i + x.1.length) = i + x.1.length + 1 := by rw [sk_blank h32, sk_same (by rw [hcb]; exact hc2.2.2.1)]
  have hr := nmP_at hn hnm hs'
  have hle := ha'.left.le
  rw [hx.reads i ha'.left (.inl h32), gv_step (j := i + x.1.length + 1 + 1 + 1 + nm.size) (t := nm) hle (by rw [hnx]; exact hc2.2.2.2) (by rw [hsk, nmP_blank h33]; exact hr), hnx, ← hc2.2.1]
  show gv s _ _ = gv s _ (i + (x.1 ++ [32, c, 32] ++ nm.data.toList).length)
  rw [hlen, show i + (x.1.length + 3 + nm.size) = i + x.1.length + 1 + 1 + 1 + nm.size by omega]
end Go.Proofs.YtccnomomdfjpmaaDoor
