/- Patterns without where they lie. Runs of bytes, and texts in quotes, plain. Patterns that are read, plain. -/
import Derived.Test.YtpkmamgleofimaaGreatDoorPatWrongP
import Derived.Test.YtpkmamgleofimaaGreatDoorPatBaseM
namespace Go.Proofs.YtpkmamgleofimaaGreatDoor
open Go.RowKit

def mkP (k : Int) (t : ByteArray) (n : Int) (nm : ByteArray) (l : List PT) : PT := ⟨k, t, n, nm, none, 0, 0, l.length, l.length, fun i => l[i]⟩
def PT.lst (T : PT) : List PT := List.ofFn T.kids
def PT.can : PT → PT
  | .node k t n nm _ _ _ _ _ kids => mkP k t n nm (List.ofFn fun i => PT.can (kids i))
theorem PT.can_eq (T : PT) : T.can = mkP T.k T.t T.n T.nm (T.lst.map PT.can) := by
  obtain ⟨k, t, n, nm, xa, b, o, len, cap, kids⟩ := T
  show mkP k t n nm (List.ofFn fun i => PT.can (kids i)) = mkP k t n nm ((List.ofFn kids).map PT.can)
  rw [List.map_ofFn]
  rfl
theorem PT.lst_len (T : PT) : T.lst.length = T.len := by unfold PT.lst; simp
theorem PT.lst_at {T : PT} {i : Nat} (h : i < T.len) : T.lst[i]? = some (T.kid i) := by
  unfold PT.lst
  rw [List.getElem?_ofFn, dif_pos h, PT.kid_at h]
theorem mkP_lst (k : Int) (t : ByteArray) (n : Int) (nm : ByteArray) (l : List PT) : (mkP k t n nm l).lst = l := by
  unfold PT.lst mkP
  exact List.ofFn_getElem
theorem can_k (T : PT) : T.can.k = T.k := by rw [PT.can_eq]; rfl
theorem can_t (T : PT) : T.can.t = T.t := by rw [PT.can_eq]; rfl
theorem can_n (T : PT) : T.can.n = T.n := by rw [PT.can_eq]; rfl
theorem can_nm (T : PT) : T.can.nm = T.nm := by rw [PT.can_eq]; rfl
theorem can_lst (T : PT) : T.can.lst = T.lst.map PT.can := by rw [PT.can_eq, mkP_lst]
theorem mem_lst_ind {P : PT → Prop} (h : ∀ T : PT, (∀ x ∈ T.lst, P x) → P T) : ∀ T, P T := PT.ind fun T ih => h T fun x hx => by
  obtain ⟨i, hi⟩ := List.mem_iff_getElem?.1 hx
  have hlt : i < T.len := by have := (List.getElem?_eq_some_iff.1 hi).1; rwa [PT.lst_len] at this
  rw [PT.lst_at hlt] at hi
  rw [← Option.some.inj hi]
  exact ih i hlt
def csum : List PT → Nat
  | [] => 0
  | x :: l => x.cnt + csum l
def dmax : List PT → Nat
  | [] => 0
  | x :: l => max x.dep (dmax l)
theorem sumTo_lst (f : PT → Nat) : ∀ (l : List PT) (n : Nat), n ≤ l.length → sumTo (fun i => f (l.getD i PT.nul)) n = ((l.take n).map f).sum
  | l, 0, _ => by simp [sumTo]
  | l, n + 1, h => by
    rw [sumTo, sumTo_lst f l n (by omega), List.take_succ_eq_append_getElem (by omega), List.map_append, List.sum_append]
    simp [List.getD_eq_getElem?_getD, List.getElem?_eq_getElem (show n < l.length by omega)]
theorem csum_sum : ∀ l, csum l = (l.map PT.cnt).sum
  | [] => rfl
  | x :: l => by rw [csum, List.map_cons, List.sum_cons, csum_sum l]
theorem kid_lst (T : PT) (i : Nat) : T.kid i = T.lst.getD i PT.nul := by
  by_cases h : i < T.len
  · rw [List.getD_eq_getElem?_getD, PT.lst_at h]; rfl
  · rw [List.getD_eq_getElem?_getD, List.getElem?_eq_none (by rw [PT.lst_len]; omega)]
    unfold PT.kid
    rw [dif_neg h]
    rfl
theorem cnt_lst (T : PT) : T.cnt = 1 + csum T.lst := by
  rw [T.cnt_eq, csum_sum]
  have := sumTo_lst PT.cnt T.lst T.len (by rw [PT.lst_len]; exact Nat.le_refl _)
  rw [List.take_of_length_le (by rw [PT.lst_len]; exact Nat.le_refl _)] at this
  rw [← this]
  exact congrArg (1 + ·) (sumTo_congr _ fun i _ => by rw [kid_lst])
theorem dmax_le {d : Nat} : ∀ {l : List PT}, (∀ x ∈ l, x.dep ≤ d) → dmax l ≤ d
  | [], _ => Nat.zero_le _
  | x :: l, h => by
    have h1 := h x List.mem_cons_self
    have h2 := dmax_le (l := l) fun y hy => h y (List.mem_cons_of_mem _ hy)
    rw [dmax]; omega
theorem le_dmax : ∀ {l : List PT} {x : PT}, x ∈ l → x.dep ≤ dmax l
  | y :: l, x, h => by
    rw [dmax]
    rcases List.mem_cons.1 h with rfl | h
    · omega
    · have := le_dmax h; omega
theorem maxTo_of (f : Nat → Nat) (d : Nat) : ∀ n, (∀ i, i < n → f i ≤ d) → maxTo f n ≤ d
  | 0, _ => Nat.zero_le _
  | n + 1, h => by
    have h1 := maxTo_of f d n fun i hi => h i (by omega)
    have h2 := h n (by omega)
    rw [maxTo]; omega
theorem le_maxTo (f : Nat → Nat) : ∀ n i, i < n → f i ≤ maxTo f n
  | n + 1, i, h => by
    rw [maxTo]
    rcases Nat.lt_or_ge i n with q | q
    · have := le_maxTo f n i q; omega
    · obtain rfl : i = n := by omega
      omega
theorem dep_lst (T : PT) : T.dep = 1 + dmax T.lst := by
  rw [T.dep_eq]
  have h1 : maxTo (fun i => (T.kid i).dep) T.len ≤ dmax T.lst := maxTo_of _ _ _ fun i hi => le_dmax (List.mem_of_getElem? (PT.lst_at hi))
  have h2 : dmax T.lst ≤ maxTo (fun i => (T.kid i).dep) T.len := dmax_le fun x hx => by
    obtain ⟨i, hi⟩ := List.mem_iff_getElem?.1 hx
    have hlt : i < T.len := by have := (List.getElem?_eq_some_iff.1 hi).1; rwa [PT.lst_len] at this
    rw [PT.lst_at hlt] at hi
    rw [← Option.some.inj hi]
    exact le_maxTo (fun i => (T.kid i).dep) T.len i hlt
  omega
theorem can_len (T : PT) : T.can.len = T.len := by rw [← PT.lst_len, can_lst, List.length_map, PT.lst_len]
theorem can_cnt : ∀ T : PT, T.can.cnt = T.cnt := mem_lst_ind fun T ih => by
  rw [cnt_lst, cnt_lst T, can_lst, csum_sum, csum_sum, List.map_map]
  exact congrArg (fun l => 1 + List.sum l) (List.map_congr_left fun x hx => ih x hx)
theorem dmax_map {f : PT → PT} : ∀ {l : List PT}, (∀ x ∈ l, (f x).dep = x.dep) → dmax (l.map f) = dmax l
  | [], _ => rfl
  | x :: l, h => by rw [List.map_cons, dmax, dmax, h x List.mem_cons_self, dmax_map fun y hy => h y (List.mem_cons_of_mem _ hy)]
theorem can_dep : ∀ T : PT, T.can.dep = T.dep := mem_lst_ind fun T ih => by
  rw [dep_lst, dep_lst T, can_lst, dmax_map ih]
theorem can_err (T : PT) : errN T.can = errN T := by
  unfold errN
  rw [can_k, can_t, can_n, can_nm, can_len]
theorem can_bad : ∀ T : PT, T.can.bad = T.bad := mem_lst_ind fun T ih => by
  rw [T.can.bad_eq, T.bad_eq, can_err, can_len]
  have hk : ∀ i, i < T.len → (T.can.kid i).bad = (T.kid i).bad := fun i hi => by
    have h1 := PT.lst_at hi
    have h2 : T.can.lst[i]? = some (T.can.kid i) := PT.lst_at (by rw [can_len]; exact hi)
    rw [can_lst, List.getElem?_map, h1] at h2
    rw [← Option.some.inj h2]
    exact ih _ (List.mem_of_getElem? h1)
  rw [firstTo_congr T.len hk]
theorem can_wrong (T : PT) : T.can.wrong = T.wrong := by
  unfold PT.wrong PT.fits
  rw [can_bad, can_cnt, can_dep]
end Go.Proofs.YtpkmamgleofimaaGreatDoor

namespace Go.Proofs.YtpkmamgleofimaaGreatDoor
open Go.RowKit

theorem bat_end (s : ByteArray) (i : Nat) (h : s.size ≤ i) : bat s i = 0 := by
  unfold bat
  have : s.data.toList.length ≤ i := by simpa using h
  rw [List.getD, List.getElem?_eq_none this]; rfl
theorem bat_in {s : ByteArray} {i : Nat} (h : bat s i ≠ 0) : i < s.size := by
  by_cases k : i < s.size
  · exact k
  · exact absurd (bat_end s i (by omega)) h
def pasF (s : ByteArray) (p : Nat → Bool) : Nat → Nat → Nat
  | 0, i => i
  | f + 1, i => if i < s.size ∧ p (bat s i) = true then pasF s p f (i + 1) else i
def pas (s : ByteArray) (p : Nat → Bool) (i : Nat) : Nat := pasF s p (s.size - i) i
theorem pas_step {s : ByteArray} {p : Nat → Bool} {i : Nat} (h : i < s.size) (hp : p (bat s i) = true) : pas s p i = pas s p (i + 1) := by
  unfold pas
  rw [show s.size - i = (s.size - (i + 1)) + 1 by omega, pasF, if_pos ⟨h, hp⟩]
theorem pas_stop {s : ByteArray} {p : Nat → Bool} {i : Nat} (h : i < s.size → p (bat s i) = false) : pas s p i = i := by
  unfold pas
  cases hq : s.size - i with
  | zero => rfl
  | succ f => rw [pasF, if_neg]; rintro ⟨h1, h2⟩; rw [h h1] at h2; cases h2
theorem pasF_le (s : ByteArray) (p : Nat → Bool) : ∀ f i, i ≤ s.size → i ≤ pasF s p f i ∧ pasF s p f i ≤ s.size
  | 0, i, h => ⟨Nat.le_refl _, h⟩
  | f + 1, i, h => by
    rw [pasF]
    split
    · rename_i hc
      have := pasF_le s p f (i + 1) (by omega)
      omega
    · exact ⟨Nat.le_refl _, h⟩
theorem pas_le (s : ByteArray) (p : Nat → Bool) (i : Nat) (h : i ≤ s.size) : i ≤ pas s p i ∧ pas s p i ≤ s.size := pasF_le s p _ i h
theorem pasF_all (s : ByteArray) (p : Nat → Bool) : ∀ f i, ∀ j, i ≤ j → j < pasF s p f i → p (bat s j) = true
  | 0, i, j, h1, h2 => by rw [pasF] at h2; omega
  | f + 1, i, j, h1, h2 => by
    rw [pasF] at h2
    split at h2
    · rename_i hc
      by_cases hj : j = i
      · subst hj; exact hc.2
      · exact pasF_all s p f (i + 1) j (by omega) h2
    · omega
theorem pas_all {s : ByteArray} {p : Nat → Bool} {i : Nat} (j : Nat) (h1 : i ≤ j) (h2 : j < pas s p i) : p (bat s j) = true := pasF_all s p _ i j h1 h2
theorem pasF_next (s : ByteArray) (p : Nat → Bool) : ∀ f i, s.size ≤ f + i → pasF s p f i < s.size → p (bat s (pasF s p f i)) = false
  | 0, i, h, h2 => by rw [pasF] at h2; omega
  | f + 1, i, h, h2 => by
    rw [pasF] at h2 ⊢
    split
    · rename_i hc; rw [if_pos hc] at h2; exact pasF_next s p f (i + 1) (by omega) h2
    · rename_i hc
      rw [if_neg hc] at h2
      cases hp : p (bat s i)
      · rfl
      · exact absurd ⟨h2, hp⟩ hc
theorem pas_next {s : ByteArray} {p : Nat → Bool} {i : Nat} (h : pas s p i < s.size) : p (bat s (pas s p i)) = false := pasF_next s p _ i (by omega) h
def cqF (s : ByteArray) : Nat → Nat → Nat
  | 0, _ => s.size
  | f + 1, i => if i < s.size then (if bat s i = 39 then (if bat s (i + 1) = 39 then cqF s f (i + 2) else i) else cqF s f (i + 1)) else s.size
def ctF (s : ByteArray) : Nat → Nat → List UInt8
  | 0, _ => []
  | f + 1, i => if i < s.size then (if bat s i = 39 then (if bat s (i + 1) = 39 then 39 :: ctF s f (i + 2) else []) else s.data.toList.getD i 0 :: ctF s f (i + 1)) else []
theorem cqF_fuel (s : ByteArray) : ∀ f g i, s.size ≤ f + i → s.size ≤ g + i → cqF s f i = cqF s g i
  | 0, 0, i, _, _ => rfl
  | 0, g + 1, i, h, _ => by rw [cqF, cqF, if_neg (by omega)]
  | f + 1, 0, i, _, h => by rw [cqF, cqF, if_neg (by omega)]
  | f + 1, g + 1, i, h1, h2 => by
    rw [cqF, cqF, cqF_fuel s f g (i + 2) (by omega) (by omega), cqF_fuel s f g (i + 1) (by omega) (by omega)]
theorem ctF_fuel (s : ByteArray) : ∀ f g i, s.size ≤ f + i → s.size ≤ g + i → ctF s f i = ctF s g i
  | 0, 0, i, _, _ => rfl
  | 0, g + 1, i, h, _ => by rw [ctF, ctF, if_neg (by omega)]
  | f + 1, 0, i, _, h => by rw [ctF, ctF, if_neg (by omega)]
  | f + 1, g + 1, i, h1, h2 => by
    rw [ctF, ctF, ctF_fuel s f g (i + 2) (by omega) (by omega), ctF_fuel s f g (i + 1) (by omega) (by omega)]
def cq (s : ByteArray) (i : Nat) : Nat := cqF s s.size i
def ct (s : ByteArray) (i : Nat) : List UInt8 := ctF s s.size i
theorem cq_eq (s : ByteArray) (i : Nat) : cq s i = if i < s.size then (if bat s i = 39 then (if bat s (i + 1) = 39 then cq s (i + 2) else i) else cq s (i + 1)) else s.size := by
  unfold cq
  rw [cqF_fuel s s.size (s.size + 1) i (by omega) (by omega), cqF]
theorem ct_eq (s : ByteArray) (i : Nat) : ct s i = if i < s.size then (if bat s i = 39 then (if bat s (i + 1) = 39 then 39 :: ct s (i + 2) else []) else s.data.toList.getD i 0 :: ct s (i + 1)) else [] := by
  unfold ct
  rw [ctF_fuel s s.size (s.size + 1) i (by omega) (by omega), ctF]
theorem cq_end {s : ByteArray} {i : Nat} (h : s.size ≤ i) : cq s i = s.size := by rw [cq_eq, if_neg (by omega)]
theorem cq_plain {s : ByteArray} {i : Nat} (h : i < s.size) (hb : bat s i ≠ 39) : cq s i = cq s (i + 1) := by rw [cq_eq, if_pos h, if_neg hb]
theorem cq_two {s : ByteArray} {i : Nat} (hb : bat s i = 39) (hc : bat s (i + 1) = 39) : cq s i = cq s (i + 2) := by rw [cq_eq, if_pos (bat_in (by omega)), if_pos hb, if_pos hc]
theorem cq_here {s : ByteArray} {i : Nat} (hb : bat s i = 39) (hc : bat s (i + 1) ≠ 39) : cq s i = i := by rw [cq_eq, if_pos (bat_in (by omega)), if_pos hb, if_neg hc]
theorem ct_end {s : ByteArray} {i : Nat} (h : s.size ≤ i) : ct s i = [] := by rw [ct_eq, if_neg (by omega)]
theorem ct_plain {s : ByteArray} {i : Nat} (h : i < s.size) (hb : bat s i ≠ 39) : ct s i = s.data.toList.getD i 0 :: ct s (i + 1) := by rw [ct_eq, if_pos h, if_neg hb]
theorem ct_two {s : ByteArray} {i : Nat} (hb : bat s i = 39) (hc : bat s (i + 1) = 39) : ct s i = 39 :: ct s (i + 2) := by rw [ct_eq, if_pos (bat_in (by omega)), if_pos hb, if_pos hc]
theorem ct_here {s : ByteArray} {i : Nat} (hb : bat s i = 39) (hc : bat s (i + 1) ≠ 39) : ct s i = [] := by rw [ct_eq, if_pos (bat_in (by omega)), if_pos hb, if_neg hc]
theorem cq_ind {s : ByteArray} {P : Nat → Prop} (h0 : ∀ i, s.size ≤ i → P i) (h1 : ∀ i, i < s.size → bat s i ≠ 39 → P (i + 1) → P i) (h2 : ∀ i, bat s i = 39 → bat s (i + 1) = 39 → P (i + 2) → P i) (h3 : ∀ i, bat s i = 39 → bat s (i + 1) ≠ 39 → P i) : ∀ f i, s.size ≤ f + i → P i
  | 0, i, h => h0 i (by omega)
  | f + 1, i, h => by
    rcases Nat.lt_or_ge i s.size with hi | hi
    · by_cases hb : bat s i = 39
      · by_cases hc : bat s (i + 1) = 39
        · exact h2 i hb hc (cq_ind h0 h1 h2 h3 f (i + 2) (by omega))
        · exact h3 i hb hc
      · exact h1 i hi hb (cq_ind h0 h1 h2 h3 f (i + 1) (by omega))
    · exact h0 i hi
theorem cq_le (s : ByteArray) (i : Nat) (h : i ≤ s.size) : i ≤ cq s i ∧ cq s i ≤ s.size :=
  cq_ind (P := fun i => i ≤ s.size → i ≤ cq s i ∧ cq s i ≤ s.size) (fun i hi h => by rw [cq_end hi]; omega) (fun i hi hb ih h => by rw [cq_plain hi hb]; have := ih (by omega); omega)
    (fun i hb hc ih h => by rw [cq_two hb hc]; have := bat_in (s := s) (i := i + 1) (by omega); have := ih (by omega); omega) (fun i hb hc h => by rw [cq_here hb hc]; omega) s.size i (by omega) h
def blankN (b : Nat) : Bool := decide (b = 32)
def wordN (b : Nat) : Bool := letterN b || digitN b
end Go.Proofs.YtpkmamgleofimaaGreatDoor

namespace Go.Proofs.YtpkmamgleofimaaGreatDoor
open Go.RowKit

abbrev Rd (α : Type) := Except (Int × Nat) (α × Nat)
def bnd {α β : Type} (r : Rd α) (f : α → Nat → Rd β) : Rd β :=
  match r with
  | .ok (a, j) => f a j
  | .error e => .error e
theorem bnd_ok {α β : Type} (a : α) (j : Nat) (f : α → Nat → Rd β) : bnd (.ok (a, j)) f = f a j := rfl
theorem bnd_err {α β : Type} (e : Int × Nat) (f : α → Nat → Rd β) : bnd (.error e) f = .error e := rfl
theorem bnd_some {α β : Type} {r : Rd α} {f : α → Nat → Rd β} {x : β × Nat} (h : bnd r f = .ok x) : ∃ a j, r = .ok (a, j) ∧ f a j = .ok x := by
  cases r with
  | ok v => exact ⟨v.1, v.2, rfl, h⟩
  | error e => cases h
def sk (s : ByteArray) (i : Nat) : Nat := pas s blankN i
def nx (s : ByteArray) (i : Nat) : Nat := bat s (sk s i)
theorem sk_le (s : ByteArray) (i : Nat) (h : i ≤ s.size) : i ≤ sk s i ∧ sk s i ≤ s.size := pas_le s blankN i h
theorem sk_same {s : ByteArray} {i : Nat} (h : bat s i ≠ 32) : sk s i = i := pas_stop fun _ => decide_eq_false h
theorem nx_in {s : ByteArray} {i : Nat} (h : nx s i ≠ 0) : sk s i < s.size := bat_in h
def takP (s : ByteArray) (c i : Nat) : Rd Unit := if nx s i = c then .ok ((), sk s i + 1) else .error (2, sk s i)
def wdE (s : ByteArray) (j : Nat) : Nat := pas s wordN j
def nmP (s : ByteArray) (i : Nat) : Rd ByteArray :=
  if letterN (nx s i) = true then (if 16 < wdE s (sk s i) - sk s i then .error (7, sk s i) else .ok (s.extract (sk s i) (wdE s (sk s i)), wdE s (sk s i))) else .error (2, sk s i)
def capUp (s : ByteArray) (j : Nat) : Nat → Nat
  | 0 => 0
  | k + 1 => min (10 * capUp s j k + (bat s (j + k) - 48)) 65537
def dgE (s : ByteArray) (j : Nat) : Nat := pas s digitN j
def nuP (s : ByteArray) (i : Nat) : Rd Nat :=
  if digitN (nx s i) = true then
    (if bat s (sk s i) = 48 ∧ sk s i + 1 < dgE s (sk s i) then .error (2, sk s i + 1)
     else if 65536 < capUp s (sk s i) (dgE s (sk s i) - sk s i) then .error (3, sk s i)
     else .ok (capUp s (sk s i) (dgE s (sk s i) - sk s i), dgE s (sk s i)))
  else .error (2, sk s i)
def qtP (s : ByteArray) (j : Nat) : Rd ByteArray := if cq s (j + 1) < s.size then .ok (⟨(ct s (j + 1)).toArray⟩, cq s (j + 1) + 1) else .error (2, s.size)
def fiP (s : ByteArray) (i : Nat) : Rd ByteArray :=
  if nx s i = 39 then bnd (qtP s (sk s i)) fun t e => if t.size = 0 then .error (8, sk s i) else .ok (t, e) else .error (2, sk s i)
def kwUp (t : ByteArray) : Nat → Nat
  | 0 => 0
  | n + 1 => if kwUp t n ≠ 0 then kwUp t n else if wordK (n + 1) = t then n + 1 else 0
def kindW (t : ByteArray) : Nat := kwUp t 24
def parP (d : Nat) (B : Nat → Rd PT) (s : ByteArray) (i : Nat) : Rd PT :=
  bnd (takP s 40 i) fun _ j => if d = 0 then .error (4, j) else bnd (B j) fun p k => bnd (takP s 41 k) fun _ m => .ok (p, m)
def woP (d : Nat) (B : Nat → Rd PT) (s : ByteArray) (j : Nat) : Rd PT :=
  if kindW (s.extract j (wdE s j)) = 0 then .error (7, j)
  else if kindW (s.extract j (wdE s j)) = 20 then bnd (parP d B s (wdE s j)) fun p m => .ok (mkP 20 ⟨#[]⟩ 0 ⟨#[]⟩ [p], m)
  else if hasK (kindW (s.extract j (wdE s j))) = 2 then bnd (takP s 40 (wdE s j)) fun _ a => bnd (nuP s a) fun n b => bnd (takP s 41 b) fun _ c => .ok (mkP (kindW (s.extract j (wdE s j))) ⟨#[]⟩ n ⟨#[]⟩ [], c)
  else if hasK (kindW (s.extract j (wdE s j))) = 1 then bnd (takP s 40 (wdE s j)) fun _ a => bnd (fiP s a) fun t b => bnd (takP s 41 b) fun _ c => .ok (mkP (kindW (s.extract j (wdE s j))) t 0 ⟨#[]⟩ [], c)
  else .ok (mkP (kindW (s.extract j (wdE s j))) ⟨#[]⟩ 0 ⟨#[]⟩ [], wdE s j)
def baP (d : Nat) (B : Nat → Rd PT) (s : ByteArray) (i : Nat) : Rd PT :=
  if nx s i = 39 then bnd (qtP s (sk s i)) fun t e => .ok (mkP 1 t 0 ⟨#[]⟩ [], e)
  else if nx s i = 40 then parP d B s (sk s i)
  else if nx s i = 64 then bnd (nmP s (sk s i + 1)) fun t e => .ok (mkP 23 ⟨#[]⟩ 0 t [], e)
  else if nx s i = 42 then bnd (nmP s (sk s i + 1)) fun t e => .ok (mkP 24 ⟨#[]⟩ 0 t [], e)
  else if letterN (nx s i) = true then woP d B s (sk s i)
  else .error (2, sk s i)
def gvK (b : Nat) : Nat := if b = 46 then 21 else if b = 36 then 22 else 0
def gvF (s : ByteArray) : Nat → PT → Nat → Rd PT
  | 0, _, i => .error (0, i)
  | f + 1, p, i => if gvK (nx s i) = 0 then .ok (p, sk s i) else bnd (nmP s (sk s i + 1)) fun t e => gvF s f (mkP (gvK (nx s i)) ⟨#[]⟩ 0 t [p]) e
def piP (d : Nat) (B : Nat → Rd PT) (s : ByteArray) (i : Nat) : Rd PT := bnd (baP d B s i) fun p j => gvF s (s.size + 1) p j
def begN (b : Nat) : Bool := letterN b || decide (b = 39) || decide (b = 40) || decide (b = 64) || decide (b = 42)
def pcF (d : Nat) (B : Nat → Rd PT) (s : ByteArray) : Nat → List PT → Nat → Rd (List PT)
  | 0, _, i => .error (0, i)
  | f + 1, l, i => if begN (nx s i) = true then bnd (piP d B s (sk s i)) fun p j => pcF d B s f (l ++ [p]) j else .ok (l, sk s i)
def togP (k : Int) (l : List PT) : PT :=
  match l with
  | [x] => x
  | l => mkP k ⟨#[]⟩ 0 ⟨#[]⟩ l
def pcP (d : Nat) (B : Nat → Rd PT) (s : ByteArray) (i : Nat) : Rd PT := bnd (piP d B s i) fun p j => bnd (pcF d B s (s.size + 1) [p] j) fun l e => .ok (togP 18 l, e)
def alF (d : Nat) (B : Nat → Rd PT) (s : ByteArray) : Nat → List PT → Nat → Rd (List PT)
  | 0, _, i => .error (0, i)
  | f + 1, l, i => if nx s i = 124 then bnd (pcP d B s (sk s i + 1)) fun p j => alF d B s f (l ++ [p]) j else .ok (l, sk s i)
def alP (d : Nat) (B : Nat → Rd PT) (s : ByteArray) (i : Nat) : Rd PT := bnd (pcP d B s i) fun p j => bnd (alF d B s (s.size + 1) [p] j) fun l e => .ok (togP 19 l, e)
def alD (s : ByteArray) : Nat → Nat → Rd PT
  | 0, i => alP 0 (fun j => .error (0, j)) s i
  | d + 1, i => alP (d + 1) (alD s d) s i
def rdA (s : ByteArray) : Rd PT := bnd (alD s 200 0) fun p j => if j < s.size then .error (2, j) else .ok (p, j)
def rdP (s : ByteArray) : Rd PT := if 65536 < s.size then .error (4, 0) else bnd (rdA s) fun p j => if p.fits = true then .ok (p, j) else .error (4, 0)
def Adv {α : Type} (s : ByteArray) (P : Nat → Rd α) : Prop := ∀ i x j, i ≤ s.size → P i = .ok (x, j) → i < j ∧ j ≤ s.size
theorem takP_adv (s : ByteArray) (c : Nat) (hc : c ≠ 0) : Adv s (takP s c) := fun i x j hi h => by
  unfold takP at h
  by_cases q : nx s i = c
  · rw [if_pos q] at h
    have h1 := nx_in (s := s) (i := i) (by omega)
    have h2 := sk_le s i hi
    injection h with h; injection h with _ h
    omega
  · rw [if_neg q] at h; cases h
theorem wdE_adv {s : ByteArray} {j : Nat} (h : letterN (bat s j) = true) : j < wdE s j ∧ wdE s j ≤ s.size := by
  have hj : j < s.size := by
    by_cases q : j < s.size
    · exact q
    · rw [bat_end s j (by omega)] at h; exact absurd h (by decide)
  unfold wdE
  rw [pas_step hj (by unfold wordN; rw [h]; rfl)]
  have := pas_le s wordN (j + 1) (by omega)
  omega
theorem dgE_adv {s : ByteArray} {j : Nat} (h : digitN (bat s j) = true) : j < dgE s j ∧ dgE s j ≤ s.size := by
  have hj : j < s.size := by
    by_cases q : j < s.size
    · exact q
    · rw [bat_end s j (by omega)] at h; exact absurd h (by decide)
  unfold dgE
  rw [pas_step hj h]
  have := pas_le s digitN (j + 1) (by omega)
  omega
theorem nmP_adv (s : ByteArray) : Adv s (nmP s) := fun i x j hi h => by
  unfold nmP at h
  by_cases q : letterN (nx s i) = true
  · rw [if_pos q] at h
    have h1 := wdE_adv (s := s) (j := sk s i) q
    have h2 := sk_le s i hi
    by_cases r : 16 < wdE s (sk s i) - sk s i
    · rw [if_pos r] at h; cases h
    · rw [if_neg r] at h
      injection h with h; injection h with _ h
      omega
  · rw [if_neg q] at h; cases h
theorem nuP_adv (s : ByteArray) : Adv s (nuP s) := fun i x j hi h => by
  unfold nuP at h
  by_cases q : digitN (nx s i) = true
  · rw [if_pos q] at h
    have h1 := dgE_adv (s := s) (j := sk s i) q
    have h2 := sk_le s i hi
    split at h
    · cases h
    · split at h
      · cases h
      · injection h with h; injection h with _ h
        omega
  · rw [if_neg q] at h; cases h
theorem qtP_adv (s : ByteArray) : Adv s (fun i => qtP s i) := fun i x j hi h => by
  have h' : qtP s i = .ok (x, j) := h
  unfold qtP at h'
  by_cases q : cq s (i + 1) < s.size
  · rw [if_pos q] at h'
    injection h' with h'; injection h' with _ h'
    rcases Nat.lt_or_ge i s.size with a | a
    · have := cq_le s (i + 1) (by omega)
      omega
    · rw [cq_end (by omega)] at q; omega
  · rw [if_neg q] at h'; cases h'
theorem fiP_adv (s : ByteArray) : Adv s (fiP s) := fun i x j hi h => by
  unfold fiP at h
  by_cases q : nx s i = 39
  · rw [if_pos q] at h
    obtain ⟨t, e, h1, h2⟩ := bnd_some h
    have h3 := sk_le s i hi
    have h4 := qtP_adv s (sk s i) t e h3.2 h1
    split at h2
    · cases h2
    · injection h2 with h2; injection h2 with _ h2
      omega
  · rw [if_neg q] at h; cases h
theorem parP_adv {d : Nat} {B : Nat → Rd PT} {s : ByteArray} (hB : Adv s B) : Adv s (parP d B s) := fun i x j hi h => by
  unfold parP at h
  obtain ⟨_, a, h1, h2⟩ := bnd_some h
  have h3 := takP_adv s 40 (by decide) i _ a hi h1
  split at h2
  · cases h2
  · obtain ⟨p, b, h4, h5⟩ := bnd_some h2
    obtain ⟨_, c, h6, h7⟩ := bnd_some h5
    have h8 := hB a p b h3.2 h4
    have h9 := takP_adv s 41 (by decide) b _ c h8.2 h6
    injection h7 with h7; injection h7 with _ h7
    omega
theorem woP_adv {d : Nat} {B : Nat → Rd PT} {s : ByteArray} (hB : Adv s B) {i : Nat} {x : PT} {j : Nat} (hl : letterN (bat s i) = true) (h : woP d B s i = .ok (x, j)) : i < j ∧ j ≤ s.size := by
  have h0 := wdE_adv hl
  unfold woP at h
  split at h
  · cases h
  · split at h
    · obtain ⟨p, m, h1, h2⟩ := bnd_some h
      have h3 := parP_adv hB _ _ _ h0.2 h1
      injection h2 with h2; injection h2 with _ h2
      omega
    · split at h
      · obtain ⟨_, a, h1, h2⟩ := bnd_some h
        obtain ⟨n, b, h3, h4⟩ := bnd_some h2
        obtain ⟨_, c, h5, h6⟩ := bnd_some h4
        have k1 := takP_adv s 40 (by decide) _ _ a h0.2 h1
        have k2 := nuP_adv s a n b k1.2 h3
        have k3 := takP_adv s 41 (by decide) b _ c k2.2 h5
        injection h6 with h6; injection h6 with _ h6
        omega
      · split at h
        · obtain ⟨_, a, h1, h2⟩ := bnd_some h
          obtain ⟨n, b, h3, h4⟩ := bnd_some h2
          obtain ⟨_, c, h5, h6⟩ := bnd_some h4
          have k1 := takP_adv s 40 (by decide) _ _ a h0.2 h1
          have k2 := fiP_adv s a n b k1.2 h3
          have k3 := takP_adv s 41 (by decide) b _ c k2.2 h5
          injection h6 with h6; injection h6 with _ h6
          omega
        · injection h with h; injection h with _ h
          omega
theorem baP_adv {d : Nat} {B : Nat → Rd PT} {s : ByteArray} (hB : Adv s B) : Adv s (baP d B s) := fun i x j hi h => by
  have h0 := sk_le s i hi
  unfold baP at h
  split at h
  · obtain ⟨t, e, h1, h2⟩ := bnd_some h
    have h4 := qtP_adv s (sk s i) t e h0.2 h1
    injection h2 with h2; injection h2 with _ h2
    omega
  · split at h
    · have := parP_adv hB _ _ _ h0.2 h; omega
    · have key : ∀ k, nx s i ≠ 0 → (bnd (nmP s (sk s i + 1)) fun t e => (.ok (mkP k ⟨#[]⟩ 0 t [], e) : Rd PT)) = .ok (x, j) → i < j ∧ j ≤ s.size := fun k hn h => by
        obtain ⟨t, e, h1, h2⟩ := bnd_some h
        have h3 := nx_in hn
        have h4 := nmP_adv s (sk s i + 1) t e (by omega) h1
        injection h2 with h2; injection h2 with _ h2
        omega
      split at h
      · exact key 23 (by omega) h
      · split at h
        · exact key 24 (by omega) h
        · split at h
          · rename_i hl
            have := woP_adv hB hl h; omega
          · cases h
theorem gvF_adv (s : ByteArray) : ∀ f p i x j, i ≤ s.size → gvF s f p i = .ok (x, j) → i ≤ j ∧ j ≤ s.size
  | 0, p, i, x, j, hi, h => by cases h
  | f + 1, p, i, x, j, hi, h => by
    have h0 := sk_le s i hi
    rw [gvF] at h
    by_cases q : gvK (nx s i) = 0
    · rw [if_pos q] at h
      injection h with h; injection h with _ h
      omega
    · rw [if_neg q] at h
      obtain ⟨t, e, h1, h2⟩ := bnd_some h
      have hn : nx s i ≠ 0 := fun z => q (by rw [z]; rfl)
      have h3 := nx_in hn
      have h4 := nmP_adv s (sk s i + 1) t e (by omega) h1
      have := gvF_adv s f _ e x j (by omega) h2
      omega
theorem piP_adv {d : Nat} {B : Nat → Rd PT} {s : ByteArray} (hB : Adv s B) : Adv s (piP d B s) := fun i x j hi h => by
  unfold piP at h
  obtain ⟨p, e, h1, h2⟩ := bnd_some h
  have h3 := baP_adv hB i p e hi h1
  have := gvF_adv s _ _ e x j h3.2 h2
  omega
theorem pcF_adv {d : Nat} {B : Nat → Rd PT} {s : ByteArray} (hB : Adv s B) : ∀ f l i x j, i ≤ s.size → pcF d B s f l i = .ok (x, j) → i ≤ j ∧ j ≤ s.size
  | 0, l, i, x, j, hi, h => by cases h
  | f + 1, l, i, x, j, hi, h => by
    have h0 := sk_le s i hi
    rw [pcF] at h
    by_cases q : begN (nx s i) = true
    · rw [if_pos q] at h
      obtain ⟨t, e, h1, h2⟩ := bnd_some h
      have h3 := piP_adv hB _ t e h0.2 h1
      have := pcF_adv hB f _ e x j (by omega) h2
      omega
    · rw [if_neg q] at h
      injection h with h; injection h with _ h
      omega
theorem pcP_adv {d : Nat} {B : Nat → Rd PT} {s : ByteArray} (hB : Adv s B) : Adv s (pcP d B s) := fun i x j hi h => by
  unfold pcP at h
  obtain ⟨p, e, h1, h2⟩ := bnd_some h
  have h3 := piP_adv hB i p e hi h1
  obtain ⟨l, m, h4, h5⟩ := bnd_some h2
  have := pcF_adv hB _ _ e l m h3.2 h4
  injection h5 with h5; injection h5 with _ h5
  omega
theorem alF_adv {d : Nat} {B : Nat → Rd PT} {s : ByteArray} (hB : Adv s B) : ∀ f l i x j, i ≤ s.size → alF d B s f l i = .ok (x, j) → i ≤ j ∧ j ≤ s.size
  | 0, l, i, x, j, hi, h => by cases h
  | f + 1, l, i, x, j, hi, h => by
    have h0 := sk_le s i hi
    rw [alF] at h
    by_cases q : nx s i = 124
    · rw [if_pos q] at h
      obtain ⟨t, e, h1, h2⟩ := bnd_some h
      have hn := nx_in (s := s) (i := i) (by omega)
      have h3 := pcP_adv hB _ t e (by omega) h1
      have := alF_adv hB f _ e x j (by omega) h2
      omega
    · rw [if_neg q] at h
      injection h with h; injection h with _ h
      omega
theorem alP_adv {d : Nat} {B : Nat → Rd PT} {s : ByteArray} (hB : Adv s B) : Adv s (alP d B s) := fun i x j hi h => by
  unfold alP at h
  obtain ⟨p, e, h1, h2⟩ := bnd_some h
  have h3 := pcP_adv hB i p e hi h1
  obtain ⟨l, m, h4, h5⟩ := bnd_some h2
  have := alF_adv hB _ _ e l m h3.2 h4
  injection h5 with h5; injection h5 with _ h5
  omega
theorem alD_adv (s : ByteArray) : ∀ d, Adv s (alD s d)
  | 0 => fun i x j hi h => alP_adv (B := fun j => .error (0, j)) (fun i x j _ h => by cases h) i x j hi (by rw [alD] at h; exact h)
  | d + 1 => fun i x j hi h => alP_adv (alD_adv s d) i x j hi (by rw [alD] at h; exact h)
end Go.Proofs.YtpkmamgleofimaaGreatDoor
