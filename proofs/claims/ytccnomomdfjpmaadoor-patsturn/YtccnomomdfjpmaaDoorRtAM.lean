/- A pattern's text, and how a text grows that is given up when it is too long. What is written is read: words, names, texts in quotes, numbers. -/
import Derived.Test.YtccnomomdfjpmaaDoorPatWrongP
import Derived.Lib.ItoaNum
import Derived.Test.YtccnomomdfjpmaaDoorRdPlainP
namespace Go.Proofs.YtccnomomdfjpmaaDoor

def quoteL (l : List UInt8) : List UInt8 := 39 :: (l.flatMap fun c => if c = 39 then [39, 39] else [c]) ++ [39]
def brk (parent kid : Int) : Bool := decide (kid = 19) || (decide (kid = 18) && decide (parent ≠ 19))
def joinTo (sep : List UInt8) (f : Nat → List UInt8) : Nat → List UInt8
  | 0 => []
  | i + 1 => joinTo sep f i ++ (if 0 < i then sep else []) ++ f i
/-- A kid's text within a parent. -/
def inB (b : Bool) (t : List UInt8) : List UInt8 := if b then 40 :: t ++ [41] else t
/-- A node's text, given its kids' texts and kinds. -/
def txtN (k : Int) (t : ByteArray) (n : Int) (nm : ByteArray) (len : Nat) (kt : Nat → List UInt8) (kk : Nat → Int) : List UInt8 :=
  if k = 1 then quoteL t.data.toList
  else if k = 18 then joinTo [32] (fun i => inB (brk k (kk i)) (kt i)) len
  else if k = 19 then joinTo [32, 124, 32] (fun i => inB (brk k (kk i)) (kt i)) len
  else if k = 21 then joinTo [] (fun i => inB (brk k (kk i)) (kt i)) len ++ [32, 46, 32] ++ nm.data.toList
  else if k = 22 then joinTo [] (fun i => inB (brk k (kk i)) (kt i)) len ++ [32, 36, 32] ++ nm.data.toList
  else if k = 23 then 64 :: nm.data.toList
  else if k = 24 then 42 :: nm.data.toList
  else (wordK k.toNat).data.toList ++ (if hasK k = 2 then 40 :: Lib.itoa n ++ [41] else if hasK k = 1 then 40 :: quoteL t.data.toList ++ [41] else if k = 20 then 40 :: kt 0 ++ [41] else [])
def nulT : List UInt8 := txtN 0 ByteArray.empty 0 ByteArray.empty 0 (fun _ => []) (fun _ => 0)
def PT.txt : PT → List UInt8
  | .node k t n nm _ _ _ len _ kids => txtN k t n nm len (kf len nulT fun i => PT.txt (kids i)) (kf len 0 fun i => (kids i).k)
theorem nul_txt : PT.nul.txt = nulT := by
  show txtN 0 ByteArray.empty 0 ByteArray.empty 0 _ _ = txtN 0 ByteArray.empty 0 ByteArray.empty 0 _ _
  unfold txtN
  simp only [show ¬ ((0 : Int) = 1) by decide, show ¬ ((0 : Int) = 18) by decide, show ¬ ((0 : Int) = 19) by decide, show ¬ ((0 : Int) = 20) by decide, show ¬ ((0 : Int) = 21) by decide, show ¬ ((0 : Int) = 22) by decide, show ¬ ((0 : Int) = 23) by decide, show ¬ ((0 : Int) = 24) by decide, if_false]
def PT.kidT (T : PT) (i : Nat) : List UInt8 := inB (brk T.k (T.kid i).k) (T.kid i).txt
theorem PT.txt_eq {T : PT} (_ : 1 ≤ T.k) : T.txt =
    if T.k = 1 then quoteL T.t.data.toList
    else if T.k = 18 then joinTo [32] T.kidT T.len
    else if T.k = 19 then joinTo [32, 124, 32] T.kidT T.len
    else if T.k = 21 then joinTo [] T.kidT T.len ++ [32, 46, 32] ++ T.nm.data.toList
    else if T.k = 22 then joinTo [] T.kidT T.len ++ [32, 36, 32] ++ T.nm.data.toList
    else if T.k = 23 then 64 :: T.nm.data.toList
    else if T.k = 24 then 42 :: T.nm.data.toList
    else (wordK T.k.toNat).data.toList ++ (if hasK T.k = 2 then 40 :: Lib.itoa T.n ++ [41] else if hasK T.k = 1 then 40 :: quoteL T.t.data.toList ++ [41] else if T.k = 20 then 40 :: (T.kid 0).txt ++ [41] else []) := by
  have h1 : (kf T.len nulT fun i => PT.txt (T.kids i)) = fun i => (T.kid i).txt := by
    funext i
    by_cases h : i < T.len
    · rw [kf_at h, PT.kid_at h]
    · unfold kf PT.kid
      rw [dif_neg h, dif_neg h, nul_txt]
  have h2 : (kf T.len 0 fun i => (T.kids i).k) = fun i => (T.kid i).k := by
    funext i
    by_cases h : i < T.len
    · rw [kf_at h, PT.kid_at h]
    · unfold kf PT.kid
      rw [dif_neg h, dif_neg h]
      rfl
  have e : T.txt = txtN T.k T.t T.n T.nm T.len (kf T.len nulT fun i => PT.txt (T.kids i)) (kf T.len 0 fun i => (T.kids i).k) := by cases T; rfl
  rw [e, h1, h2]
  rfl
/-- What comes of a text that is appended to, and is given up when it is too long. -/
structure Grew (l t r : List UInt8) (c : Nat) : Prop where
  same : (l ++ t).length ≤ 65536 → r = l ++ t
  long : 65536 < (l ++ t).length → 65536 < r.length
  most : r.length ≤ max l.length 196700 + c
  up : l.length ≤ r.length
theorem Grew.refl (l : List UInt8) : Grew l [] l 0 := ⟨fun _ => (List.append_nil l).symm, fun h => by simpa using h, by omega, Nat.le_refl _⟩
theorem Grew.gave (l t : List UInt8) (h : 65536 < l.length) : Grew l t l 0 := ⟨fun x => by rw [List.length_append] at x; omega, fun _ => h, by omega, Nat.le_refl _⟩
theorem Grew.put (l t : List UInt8) : Grew l t (l ++ t) t.length := ⟨fun _ => rfl, fun h => h, by rw [List.length_append]; omega, by rw [List.length_append]; omega⟩
theorem Grew.leaf (l t : List UInt8) (hl : l.length ≤ 65536) (ht : t.length ≤ 131100) : Grew l t (l ++ t) 0 := ⟨fun _ => rfl, fun h => h, by rw [List.length_append]; omega, by rw [List.length_append]; omega⟩
theorem Grew.trans {l t1 r1 t2 r2 : List UInt8} {c1 c2 : Nat} (h : Grew l t1 r1 c1) (k : Grew r1 t2 r2 c2) : Grew l (t1 ++ t2) r2 (c1 + c2) := by
  have hm := h.most
  have km := k.most
  have hu := h.up
  have ku := k.up
  refine ⟨fun x => ?_, fun x => ?_, by omega, by omega⟩
  · rw [List.length_append, List.length_append] at x
    have e := h.same (by rw [List.length_append]; omega)
    subst e
    rw [k.same (by simp only [List.length_append]; omega), List.append_assoc]
  · rcases Nat.lt_or_ge 65536 (l ++ t1).length with y | y
    · have := h.long y; omega
    · have e := h.same y
      subst e
      exact k.long (by rw [List.append_assoc]; exact x)
theorem Grew.more {l t r : List UInt8} {c d : Nat} (h : Grew l t r c) (hc : c ≤ d) : Grew l t r d := ⟨h.same, h.long, by have := h.most; omega, h.up⟩
theorem Grew.cast {l t t' r : List UInt8} {c : Nat} (h : Grew l t r c) (e : t = t') : Grew l t' r c := e ▸ h
theorem quoteL_len (l : List UInt8) : (quoteL l).length ≤ 2 * l.length + 2 := by
  have : ∀ l : List UInt8, (l.flatMap fun c => if c = 39 then [39, 39] else [c]).length ≤ 2 * l.length := by
    intro l
    induction l with
    | nil => simp
    | cons x l ih =>
      rw [List.flatMap_cons, List.length_append, List.length_cons]
      have : (if x = 39 then [39, 39] else [x] : List UInt8).length ≤ 2 := by split <;> simp
      omega
  have := this l
  unfold quoteL
  rw [List.length_append, List.length_cons, List.length_singleton]
  omega
end Go.Proofs.YtccnomomdfjpmaaDoor

namespace Go.Proofs.YtccnomomdfjpmaaDoor
open Go.RowKit

/-- From a place on stands a list of bytes. -/
def At (s : ByteArray) (i : Nat) (l : List UInt8) : Prop := i ≤ s.size ∧ ∃ r, s.data.toList.drop i = l ++ r
theorem At.le {s : ByteArray} {i : Nat} {l : List UInt8} (h : At s i l) : i + l.length ≤ s.size := by
  obtain ⟨h1, r, h2⟩ := h
  have := congrArg List.length h2
  simp at this
  omega
theorem At.left {s : ByteArray} {i : Nat} {a b : List UInt8} (h : At s i (a ++ b)) : At s i a := by
  obtain ⟨h1, r, h2⟩ := h
  exact ⟨h1, b ++ r, by rw [h2, List.append_assoc]⟩
theorem At.right {s : ByteArray} {i : Nat} {a b : List UInt8} (h : At s i (a ++ b)) : At s (i + a.length) b := by
  have hl := h.left.le
  obtain ⟨h1, r, h2⟩ := h
  refine ⟨hl, r, ?_⟩
  rw [← List.drop_drop, h2, List.append_assoc, List.drop_left]
theorem At.head {s : ByteArray} {i : Nat} {c : UInt8} {l : List UInt8} (h : At s i (c :: l)) : bat s i = c.toNat ∧ i < s.size := by
  have hl := h.le
  obtain ⟨h1, r, h2⟩ := h
  have e := congrArg List.head? h2
  rw [List.head?_drop] at e
  constructor
  · unfold bat
    rw [List.getD, e]; rfl
  · simp at hl; omega
theorem At.tail {s : ByteArray} {i : Nat} {c : UInt8} {l : List UInt8} (h : At s i (c :: l)) : At s (i + 1) l := At.right (a := [c]) h
theorem At.get {s : ByteArray} {i : Nat} {l : List UInt8} (h : At s i l) {k : Nat} (hk : k < l.length) : bat s (i + k) = (l[k]).toNat := by
  obtain ⟨h1, r, h2⟩ := h
  have e := congrArg (fun x => x[k]?) h2
  simp only [List.getElem?_drop] at e
  rw [List.getElem?_append_left hk, List.getElem?_eq_getElem hk] at e
  unfold bat
  rw [List.getD, e]; rfl
theorem at_all (l : List UInt8) : At ⟨l.toArray⟩ 0 l := ⟨Nat.zero_le _, [], by simp⟩
/-- What ends a word, a name, a text. -/
def Stp (s : ByteArray) (j : Nat) : Prop := bat s j = 32 ∨ bat s j = 41 ∨ bat s j = 0
theorem Stp.word {s : ByteArray} {j : Nat} (h : Stp s j) : wordN (bat s j) = false := by
  rcases h with h | h | h <;> rw [h] <;> rfl
theorem Stp.digit {s : ByteArray} {j : Nat} (h : Stp s j) : digitN (bat s j) = false := by
  rcases h with h | h | h <;> rw [h] <;> rfl
theorem Stp.quote {s : ByteArray} {j : Nat} (h : Stp s j) : bat s j ≠ 39 := by
  rcases h with h | h | h <;> rw [h] <;> decide
theorem pas_run {s : ByteArray} {p : Nat → Bool} : ∀ (n i : Nat), (∀ k, k < n → i + k < s.size ∧ p (bat s (i + k)) = true) → p (bat s (i + n)) = false → pas s p i = i + n
  | 0, i, _, h => by rw [Nat.add_zero]; exact pas_stop fun _ => h
  | n + 1, i, hk, h => by
    have h0 := hk 0 (by omega)
    rw [Nat.add_zero] at h0
    rw [pas_step h0.1 h0.2, pas_run n (i + 1) (fun k hk' => by have := hk (k + 1) (by omega); rwa [show i + 1 + k = i + (k + 1) by omega]) (by rw [show i + 1 + n = i + (n + 1) by omega]; exact h)]
    omega
theorem sk_blank {s : ByteArray} {i : Nat} (h : bat s i = 32) : sk s i = sk s (i + 1) := pas_step (bat_in (by omega)) (decide_eq_true h)
theorem nx_blank {s : ByteArray} {i : Nat} (h : bat s i = 32) : nx s i = nx s (i + 1) := by unfold nx; rw [sk_blank h]
theorem nx_here {s : ByteArray} {i : Nat} (h : bat s i ≠ 32) : nx s i = bat s i := by unfold nx; rw [sk_same h]
theorem extract_at {s : ByteArray} {i : Nat} {l : List UInt8} (h : At s i l) : s.extract i (i + l.length) = ⟨l.toArray⟩ := by
  obtain ⟨h1, r, h2⟩ := h
  apply ByteArray.ext
  apply Array.toList_inj.1
  rw [ByteArray.data_extract, Array.toList_extract, List.extract, h2]
  simp
theorem wdE_at {s : ByteArray} {i : Nat} {l : List UInt8} (h : At s i l) (hw : ∀ x ∈ l, wordN x.toNat = true) (hs : Stp s (i + l.length)) : wdE s i = i + l.length :=
  pas_run l.length i (fun k hk => ⟨by have := h.le; omega, by rw [h.get hk]; exact hw _ (List.getElem_mem hk)⟩) hs.word
theorem nmP_blank {s : ByteArray} {i : Nat} (h : bat s i = 32) : nmP s i = nmP s (i + 1) := by unfold nmP; rw [sk_blank h, nx_blank h]
theorem named_word {nm : ByteArray} (h : named nm = true) : (∀ x ∈ nm.data.toList, wordN x.toNat = true) ∧ nm.size ≤ 16 ∧ ∃ c r, nm.data.toList = c :: r ∧ letterN c.toNat = true := by
  unfold named at h
  rw [Bool.and_eq_true] at h
  obtain ⟨h1, h2⟩ := h
  cases hl : nm.data.toList with
  | nil => rw [hl] at h2; cases h2
  | cons c r =>
    rw [hl] at h2
    unfold namedL at h2
    rw [Bool.and_eq_true] at h2
    have hc : letterN c.toNat = true := by rw [← letterB_eq]; exact h2.1
    refine ⟨fun x hx => ?_, of_decide_eq_true h1, c, r, rfl, hc⟩
    rcases List.mem_cons.1 hx with rfl | hx
    · unfold wordN; rw [hc]; rfl
    · have := List.all_eq_true.1 h2.2 x hx
      unfold wordN
      rw [← letterB_eq, ← digitB_eq]; exact this
theorem nmP_at {s : ByteArray} {i : Nat} {nm : ByteArray} (hn : named nm = true) (h : At s i nm.data.toList) (hs : Stp s (i + nm.size)) : nmP s i = .ok (nm, i + nm.size) := by
  obtain ⟨hw, h16, c, r, hl, hc⟩ := named_word hn
  have hlen : nm.data.toList.length = nm.size := by simp
  have h0 := h
  rw [hl] at h0
  have hb := h0.head.1
  have hne : bat s i ≠ 32 := fun e => by rw [hb] at e; rw [e] at hc; exact absurd hc (by decide)
  have hE := wdE_at h hw (by rw [hlen]; exact hs)
  rw [hlen] at hE
  unfold nmP
  rw [sk_same hne, nx_here hne, hb, if_pos hc, hE, if_neg (by omega)]
  have := extract_at h
  rw [hlen] at this
  rw [this]
/-- A text in quotes. -/
theorem cq_at {s : ByteArray} : ∀ (l : List UInt8) (i : Nat), At s i ((l.flatMap fun c => if c = 39 then [39, 39] else [c]) ++ [39]) → bat s (i + (l.flatMap fun c => if c = 39 then [39, 39] else [c]).length + 1) ≠ 39 →
    cq s i = i + (l.flatMap fun c => if c = 39 then [39, 39] else [c]).length ∧ ct s i = l
  | [], i, h, hs => by
    have hb := h.head.1
    exact ⟨cq_here hb hs, ct_here hb hs⟩
  | c :: l, i, h, hs => by
    rw [List.flatMap_cons] at h hs ⊢
    by_cases hc : c = 39
    · rw [if_pos hc] at h hs ⊢
      have h1 := h.head.1
      have h2 := h.tail.head.1
      have ih := cq_at l (i + 2) h.tail.tail (by rw [show i + 2 + (l.flatMap fun c => if c = 39 then [39, 39] else [c]).length + 1 = i + ([39, 39] ++ (l.flatMap fun c => if c = 39 then [39, 39] else [c])).length + 1 by simp; omega]; exact hs)
      rw [cq_two h1 h2, ct_two h1 h2, ih.1, ih.2, hc]
      exact ⟨by simp; omega, rfl⟩
    · rw [if_neg hc] at h hs ⊢
      have h1 := h.head
      have hne : bat s i ≠ 39 := fun e => hc (by rw [h1.1] at e; exact UInt8.toNat_inj.1 e)
      have ih := cq_at l (i + 1) h.tail (by rw [show i + 1 + (l.flatMap fun c => if c = 39 then [39, 39] else [c]).length + 1 = i + ([c] ++ (l.flatMap fun c => if c = 39 then [39, 39] else [c])).length + 1 by simp; omega]; exact hs)
      have hg : s.data.toList.getD i 0 = c := UInt8.toNat_inj.1 h1.1
      rw [cq_plain h1.2 hne, ct_plain h1.2 hne, ih.1, ih.2, hg]
      exact ⟨by simp; omega, rfl⟩
theorem qtP_at {s : ByteArray} {i : Nat} {t : ByteArray} (h : At s i (quoteL t.data.toList)) (hs : Stp s (i + (quoteL t.data.toList).length)) : qtP s i = .ok (t, i + (quoteL t.data.toList).length) := by
  have hle := h.le
  have hl : (quoteL t.data.toList).length = (t.data.toList.flatMap fun c => if c = 39 then [39, 39] else [c]).length + 2 := by unfold quoteL; simp
  have h2 : At s (i + 1) ((t.data.toList.flatMap fun c => if c = 39 then [39, 39] else [c]) ++ [39]) := h.tail
  have hq := cq_at t.data.toList (i + 1) h2 (by rw [show i + 1 + (t.data.toList.flatMap fun c => if c = 39 then [39, 39] else [c]).length + 1 = i + (quoteL t.data.toList).length by omega]; exact hs.quote)
  unfold qtP
  rw [hq.1, hq.2, if_pos (by omega), hl]
  congr 2
  omega
theorem fiP_at {s : ByteArray} {i : Nat} {t : ByteArray} (h : At s i (quoteL t.data.toList)) (ht : t.size ≠ 0) (hs : Stp s (i + (quoteL t.data.toList).length)) : fiP s i = .ok (t, i + (quoteL t.data.toList).length) := by
  have hb : bat s i = 39 := (At.head (l := _) h).1
  unfold fiP
  rw [nx_here (by omega), sk_same (by omega), hb, if_pos rfl, qtP_at h hs, bnd_ok, if_neg ht]
/-- A number. -/
theorem dec_digit : ∀ (n u : Nat), u < n → ∀ x ∈ Lib.decDigits u, digitN x.toNat = true
  | 0, u, h, _, _ => by omega
  | n + 1, u, h, x, hx => by
    rw [Lib.decDigits] at hx
    by_cases q : u < 10
    · rw [dif_pos q, List.mem_singleton] at hx
      subst hx
      unfold digitN
      rw [UInt8.toNat_ofNat']
      exact decide_eq_true (by omega)
    · rw [dif_neg q, List.mem_append, List.mem_singleton] at hx
      rcases hx with hx | rfl
      · exact dec_digit n (u / 10) (by omega) x hx
      · unfold digitN
        rw [UInt8.toNat_ofNat']
        exact decide_eq_true (by omega)
theorem dec_cap {s : ByteArray} {i : Nat} : ∀ (n u : Nat), u < n → u ≤ 65536 → At s i (Lib.decDigits u) → capUp s i (Lib.decDigits u).length = u
  | 0, u, h, _, _ => by omega
  | n + 1, u, h, hu, ha => by
    by_cases q : u < 10
    · have e : Lib.decDigits u = [UInt8.ofNat (48 + u)] := by rw [Lib.decDigits, dif_pos q]
      rw [e] at ha ⊢
      have hb := ha.head.1
      rw [UInt8.toNat_ofNat'] at hb
      show min (10 * 0 + (bat s (i + 0) - 48)) 65537 = u
      rw [Nat.add_zero, hb]
      omega
    · have e : Lib.decDigits u = Lib.decDigits (u / 10) ++ [UInt8.ofNat (48 + u % 10)] := by rw [Lib.decDigits, dif_neg q]
      rw [e] at ha ⊢
      have ih := dec_cap n (u / 10) (by omega) (by omega) ha.left
      have hb := ha.right.head.1
      rw [UInt8.toNat_ofNat'] at hb
      rw [List.length_append, List.length_singleton]
      show min (10 * capUp s i (Lib.decDigits (u / 10)).length + (bat s (i + (Lib.decDigits (u / 10)).length) - 48)) 65537 = u
      rw [ih, hb]
      omega
theorem dec_head : ∀ (n u : Nat), u < n → 10 ≤ u → ∃ c r, Lib.decDigits u = c :: r ∧ c.toNat ≠ 48
  | 0, u, h, _ => by omega
  | n + 1, u, h, hu => by
    have e : Lib.decDigits u = Lib.decDigits (u / 10) ++ [UInt8.ofNat (48 + u % 10)] := by rw [Lib.decDigits, dif_neg (by omega)]
    by_cases q : u / 10 < 10
    · have e2 : Lib.decDigits (u / 10) = [UInt8.ofNat (48 + u / 10)] := by rw [Lib.decDigits, dif_pos q]
      refine ⟨_, _, by rw [e, e2]; rfl, ?_⟩
      rw [UInt8.toNat_ofNat']
      omega
    · obtain ⟨c, r, h1, h2⟩ := dec_head n (u / 10) (by omega) (by omega)
      exact ⟨c, r ++ [UInt8.ofNat (48 + u % 10)], by rw [e, h1]; rfl, h2⟩
theorem dec_pos (u : Nat) : 0 < (Lib.decDigits u).length := by rw [Lib.decDigits_length]; exact Lib.nDigits_pos u
theorem nuP_at {s : ByteArray} {i : Nat} {n : Int} (h0 : 0 ≤ n) (hn : n ≤ 65536) (h : At s i (Lib.itoa n)) (hs : Stp s (i + (Lib.itoa n).length)) : nuP s i = .ok (n.toNat, i + (Lib.itoa n).length) := by
  have e : Lib.itoa n = Lib.decDigits n.toNat := by unfold Lib.itoa; rw [if_neg (by omega)]
  rw [e] at h hs ⊢
  generalize hu : n.toNat = u at *
  have hu2 : u ≤ 65536 := by omega
  have hd := dec_digit (u + 1) u (by omega)
  have hl := dec_pos u
  have hb0 := h.get (k := 0) hl
  rw [Nat.add_zero] at hb0
  have hdg : digitN (bat s i) = true := by rw [hb0]; exact hd _ (List.getElem_mem hl)
  have hne : bat s i ≠ 32 := fun e => by rw [e] at hdg; exact absurd hdg (by decide)
  have hE : dgE s i = i + (Lib.decDigits u).length := pas_run _ i (fun k hk => ⟨by have := h.le; omega, by rw [h.get hk]; exact hd _ (List.getElem_mem hk)⟩) hs.digit
  have hc := dec_cap (u + 1) u (by omega) hu2 h
  unfold nuP
  rw [sk_same hne, nx_here hne, if_pos hdg, hE, Nat.add_sub_cancel_left, hc, if_neg, if_neg (by omega)]
  rintro ⟨h48, hlt⟩
  by_cases q : 10 ≤ u
  · obtain ⟨c, r, e1, e2⟩ := dec_head (u + 1) u (by omega) q
    rw [e1] at h
    exact e2 (by rw [← h.head.1]; exact h48)
  · have : (Lib.decDigits u).length = 1 := by rw [Lib.decDigits, dif_pos (by omega)]; rfl
    omega
theorem kindW_word : ∀ k, (2 ≤ k ∧ k ≤ 17) ∨ k = 20 → kindW (wordK k) = k := by
  have key : ∀ k : Fin 21, ((2 ≤ k.val ∧ k.val ≤ 17) ∨ k.val = 20) → kindW (wordK k.val) = k.val := by decide +kernel
  intro k hk
  exact key ⟨k, by omega⟩ hk
theorem wordK_all : ∀ k, (2 ≤ k ∧ k ≤ 17) ∨ k = 20 → (∀ x ∈ (wordK k).data.toList, wordN x.toNat = true) ∧ (∃ c r, (wordK k).data.toList = c :: r ∧ letterN c.toNat = true) := by
  have key : ∀ k : Fin 21, ((2 ≤ k.val ∧ k.val ≤ 17) ∨ k.val = 20) → ((wordK k.val).data.toList.all (fun x => wordN x.toNat) = true ∧ letterN ((wordK k.val).data.toList.headD 0).toNat = true ∧ (wordK k.val).data.toList ≠ []) := by decide +kernel
  intro k hk
  obtain ⟨h1, h2, h3⟩ := key ⟨k, by omega⟩ hk
  refine ⟨fun x hx => List.all_eq_true.1 h1 x hx, ?_⟩
  cases hl : (wordK k).data.toList with
  | nil => exact absurd hl h3
  | cons c r => rw [hl] at h2; exact ⟨c, r, rfl, h2⟩
end Go.Proofs.YtccnomomdfjpmaaDoor
