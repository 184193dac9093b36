/- What only does at the kinds that look for bytes of a text; what further does at BREAKX. -/
import Derived.Test.YtkggmodabpjobaaDoorScanUntil
import Derived.Test.YtkggmodabpjobaaDoorScanOnly
namespace Go.Proofs.YtkggmodabpjobaaDoor
open Go.RowKit

/-- What is kept of a node's text is right. -/
def Str (s : ByteArray) (x : Nd) : Prop := (x.k = 5 → StrW s x false) ∧ ((x.k = 6 ∨ x.k = 7) → StrW s x true)
def NS (w : World) (s : ByteArray) (N : List Nd) : Prop := ∀ (i : Nat) (x : Nd), N[i]? = some x → SetAt w x ∧ Str s x
theorem NS.fr {w w' : World} {s : ByteArray} {B g : Nat} {m m' : MS} {N : List Nd} {O : List Int} {W : List Wr} {C : List Cr} {G S : List Gft} (h : NS w s N) (r : Rep w B g m N O W C G S) (f : Fr g m m' w w') : NS w' s N := fun i x hx => ⟨(h i x hx).1.fr r f, (h i x hx).2⟩
theorem NS.set {w : World} {s : ByteArray} {N : List Nd} {nd : Nat} {y : Nd} (h : NS w s N) (h1 : SetAt w y) (h2 : Str s y) : NS w s (N.set nd y) := fun i x hx => by
  rw [List.getElem?_set] at hx
  split at hx
  · split at hx
    · injection hx with hx
      subst hx
      exact ⟨h1, h2⟩
    · cases hx
  · exact h i x hx
theorem same_set {N : List Nd} {nd : Nat} {x y : Nd} (hx : N[nd]? = some x) (h1 : y.k = x.k) (h2 : y.t = x.t) (h3 : y.n = x.n) (h4 : y.nm = x.nm) (h5 : y.ru = x.ru) (h6 : y.fi = x.fi) (h7 : y.en = x.en) : Same N (N.set nd y) := fun i z hz => by
  have hl : nd < N.length := (List.getElem?_eq_some_iff.1 hx).1
  by_cases e : nd = i
  · subst e
    rw [hx] at hz
    injection hz with hz
    subst hz
    exact ⟨y, List.getElem?_set_self hl, h1, h2, h3, h4, h5, h6, h7⟩
  · exact ⟨z, by rw [List.getElem?_set_ne e]; exact hz, rfl, rfl, rfl, rfl, rfl, rfl, rfl⟩
/-- What only answers there. -/
def OnlySet (w : World) (B g : Nat) (m : MS) (N : List Nd) (O : List Int) (W : List Wr) (C : List Cr) (G S : List Gft) (T : PT) (i : Nat) (e : Ending) (w' : World) : Prop :=
  ∃ (to : Int) (ok : Bool) (N' : List Nd), e = .returned (.tuple #[.int .i64 to, .bool ok]) ∧ (ok = true → ∃ x : Nat, to = (x : Int) ∧ onl m.s T i = some x) ∧ (ok = false → onl m.s T i = none) ∧ Rep w' B g m N' O W C G S ∧ Fr g m m w w' ∧ Same N N' ∧ NS w' m.s N'
theorem strW_has {s : ByteArray} {x : Nd} {b : Nat} (h : Str s x) : Str s { x with st := some b } := h
theorem onlySet_has {w w' : World} {B g : Nat} {m : MS} {N : List Nd} {O : List Int} {W : List Wr} {C : List Cr} {G S : List Gft} {T : PT} {i nd b : Nat} {x : Nd} {to : Int} {ok : Bool} (h : Rep w B g m N O W C G S) (hns : NS w m.s N) (hx : N[nd]? = some x) (r : Rep w' B g m (N.set nd { x with st := some b }) O W C G S) (f : Fr g m m w w') (hs : SetAt w' { x with st := some b }) (h1 : ok = true → ∃ x : Nat, to = (x : Int) ∧ onl m.s T i = some x) (h2 : ok = false → onl m.s T i = none) : OnlySet w B g m N O W C G S T i (.returned (.tuple #[.int .i64 to, .bool ok])) w' :=
  ⟨to, ok, _, rfl, h1, h2, r, f, same_set hx rfl rfl rfl rfl rfl rfl rfl, (hns.fr h f).set hs (hns nd x hx).2⟩
theorem str_until {s : ByteArray} {x : Nd} {want : Bool} {st : Option Nat} {fr to : Int} (hk : (x.k = 5 ∧ want = false) ∨ ((x.k = 6 ∨ x.k = 7) ∧ want = true)) (h : StrW s { x with st := st, fr := fr, to := to } want) : Str s { x with st := st, fr := fr, to := to } := by
  rcases hk with ⟨k1, rfl⟩ | ⟨k1, rfl⟩
  · exact ⟨fun _ => h, fun (q : x.k = 6 ∨ x.k = 7) => by omega⟩
  · exact ⟨fun (q : x.k = 5) => by omega, fun _ => h⟩
theorem onlySet_until {w w' : World} {B g : Nat} {m : MS} {N : List Nd} {O : List Int} {W : List Wr} {C : List Cr} {G S : List Gft} {T : PT} {i nd : Nat} {x : Nd} {to : Int} {ok want : Bool} {st : Option Nat} {fr tt : Int} (h : Rep w B g m N O W C G S) (hns : NS w m.s N) (hx : N[nd]? = some x) (hk : (x.k = 5 ∧ want = false) ∨ ((x.k = 6 ∨ x.k = 7) ∧ want = true)) (r : Rep w' B g m (N.set nd { x with st := st, fr := fr, to := tt }) O W C G S) (f : Fr g m m w w') (hs : SetAt w' { x with st := st, fr := fr, to := tt }) (hst : StrW m.s { x with st := st, fr := fr, to := tt } want) (h1 : ok = true → ∃ x : Nat, to = (x : Int) ∧ onl m.s T i = some x) (h2 : ok = false → onl m.s T i = none) : OnlySet w B g m N O W C G S T i (.returned (.tuple #[.int .i64 to, .bool ok])) w' :=
  ⟨to, ok, _, rfl, h1, h2, r, f, same_set hx rfl rfl rfl rfl rfl rfl rfl, (hns.fr h f).set hs (str_until hk hst)⟩

set_option maxRecDepth 100000 in
set_option maxHeartbeats 1000000 in
theorem only_any {w : World} {B g gn cap nd i : Nat} {m : MS} {N : List Nd} {O : List Int} {W : List Wr} {C : List Cr} {G S : List Gft} {x : Nd} {T : PT} (h : Rep w B g m N O W C G S) (hnv : m.nv = .slice (some ⟨gn, 0, none⟩) N.length cap) (hx : N[nd]? = some x) (hk : x.k = T.k) (ht : x.t = T.t) (hK : T.k = 3) (hns : NS w m.s N) (htl : T.t.size ≤ 65536) (hs : m.s.size ≤ 65536) (hi : i ≤ m.s.size) :
    Calls Tryd.prog 34 #[.pointer (some ⟨g, 0, none⟩), .pointer (some ⟨gn, nd * 10, none⟩), .int .i64 (i : Int)] w (OnlySet w B g m N O W C G S T i) := by
  have c0 := h.c0
  have k0 : w.cell? ⟨gn, nd * 10, none⟩ = some (.int .i64 x.k) := h.nodes.cell ndV_len hnv hx (k := 0) rfl
  have hxk : x.k = 3 := hk.trans hK
  rw [hxk] at k0
  have HO := hide (show onl m.s T i = if i < m.s.size ∧ inB T.t (byt m.s i) = true then some (i + 1) else none by unfold onl; simp [hK])
  rcases Nat.lt_or_ge i m.s.size with hlt | hge
  · have HC := hide (has_node h hnv hx (hns nd x hx).1 (by rw [ht]; exact htl) hlt hs)
    have hlt' : (i : Int) < (m.s.size : Int) := by omega
    have HH := hide (And.intro h (And.intro hns (And.intro hx ht)))
    clear h hns hx ht hk hK htl hnv hxk
    go_enter Tryd.func34, Tryd.ntmps34
    go_wp2_with fail
    refine (unhide HC).mono ?_
    rintro e w1 ⟨b, rfl, r1, f1, s1⟩
    have H1 := hide (And.intro r1 (And.intro f1 s1))
    clear r1 f1 s1 HC
    obtain ⟨h, hns, hx, ht⟩ := unhide HH
    rw [ht]
    clear h hns hx ht
    cases hB : inB T.t (byt m.s i) with
    | false =>
      have HB := hide hB
      clear hB
      go_wp2_with fail
      go_ret2
      obtain ⟨h, hns, hx, ht⟩ := unhide HH
      obtain ⟨r1, f1, s1⟩ := unhide H1
      exact onlySet_has h hns hx r1 f1 s1 (fun q => by simp at q) (fun _ => by rw [unhide HO, if_neg (by rw [unhide HB]; simp)])
    | true =>
      have HB := hide hB
      clear hB
      go_wp2_with fail
      go_ret2
      obtain ⟨h, hns, hx, ht⟩ := unhide HH
      obtain ⟨r1, f1, s1⟩ := unhide H1
      exact onlySet_has h hns hx r1 f1 s1 (fun _ => ⟨i + 1, by omega, by rw [unhide HO, if_pos ⟨hlt, unhide HB⟩]⟩) (fun q => by simp at q)
  · obtain rfl : i = m.s.size := by omega
    have HH := hide (And.intro h hns)
    clear h hns hx ht hk hK htl hnv hxk hs
    go_enter Tryd.func34, Tryd.ntmps34
    go_wp2_with fail
    go_ret2
    exact ⟨_, _, N, rfl, (fun q => by simp at q), (fun _ => by rw [unhide HO, if_neg (by omega)]), (unhide HH).1, Fr.refl _ _ _, Same.refl _, (unhide HH).2⟩

set_option maxRecDepth 100000 in
set_option maxHeartbeats 1000000 in
theorem only_notany {w : World} {B g gn cap nd i : Nat} {m : MS} {N : List Nd} {O : List Int} {W : List Wr} {C : List Cr} {G S : List Gft} {x : Nd} {T : PT} (h : Rep w B g m N O W C G S) (hnv : m.nv = .slice (some ⟨gn, 0, none⟩) N.length cap) (hx : N[nd]? = some x) (hk : x.k = T.k) (ht : x.t = T.t) (hK : T.k = 4) (hns : NS w m.s N) (htl : T.t.size ≤ 65536) (hs : m.s.size ≤ 65536) (hi : i ≤ m.s.size) :
    Calls Tryd.prog 34 #[.pointer (some ⟨g, 0, none⟩), .pointer (some ⟨gn, nd * 10, none⟩), .int .i64 (i : Int)] w (OnlySet w B g m N O W C G S T i) := by
  have c0 := h.c0
  have k0 : w.cell? ⟨gn, nd * 10, none⟩ = some (.int .i64 x.k) := h.nodes.cell ndV_len hnv hx (k := 0) rfl
  have hxk : x.k = 4 := hk.trans hK
  rw [hxk] at k0
  have HO := hide (show onl m.s T i = if i < m.s.size ∧ inB T.t (byt m.s i) = false then some (i + 1) else none by unfold onl; simp [hK])
  rcases Nat.lt_or_ge i m.s.size with hlt | hge
  · have HC := hide (has_node h hnv hx (hns nd x hx).1 (by rw [ht]; exact htl) hlt hs)
    have hlt' : (i : Int) < (m.s.size : Int) := by omega
    have HH := hide (And.intro h (And.intro hns (And.intro hx ht)))
    clear h hns hx ht hk hK htl hnv hxk
    go_enter Tryd.func34, Tryd.ntmps34
    go_wp2_with fail
    refine (unhide HC).mono ?_
    rintro e w1 ⟨b, rfl, r1, f1, s1⟩
    have H1 := hide (And.intro r1 (And.intro f1 s1))
    clear r1 f1 s1 HC
    obtain ⟨h, hns, hx, ht⟩ := unhide HH
    rw [ht]
    clear h hns hx ht
    cases hB : inB T.t (byt m.s i) with
    | false =>
      have HB := hide hB
      clear hB
      go_wp2_with fail
      go_ret2
      obtain ⟨h, hns, hx, ht⟩ := unhide HH
      obtain ⟨r1, f1, s1⟩ := unhide H1
      exact onlySet_has h hns hx r1 f1 s1 (fun _ => ⟨i + 1, by omega, by rw [unhide HO, if_pos ⟨hlt, unhide HB⟩]⟩) (fun q => by simp at q)
    | true =>
      have HB := hide hB
      clear hB
      go_wp2_with fail
      go_ret2
      obtain ⟨h, hns, hx, ht⟩ := unhide HH
      obtain ⟨r1, f1, s1⟩ := unhide H1
      exact onlySet_has h hns hx r1 f1 s1 (fun q => by simp at q) (fun _ => by rw [unhide HO, if_neg (by rw [unhide HB]; simp)])
  · obtain rfl : i = m.s.size := by omega
    have HH := hide (And.intro h hns)
    clear h hns hx ht hk hK htl hnv hxk hs
    go_enter Tryd.func34, Tryd.ntmps34
    go_wp2_with fail
    go_ret2
    exact ⟨_, _, N, rfl, (fun q => by simp at q), (fun _ => by rw [unhide HO, if_neg (by omega)]), (unhide HH).1, Fr.refl _ _ _, Same.refl _, (unhide HH).2⟩

set_option maxRecDepth 100000 in
set_option maxHeartbeats 1000000 in
theorem only_span {w : World} {B g gn cap nd i : Nat} {m : MS} {N : List Nd} {O : List Int} {W : List Wr} {C : List Cr} {G S : List Gft} {x : Nd} {T : PT} (h : Rep w B g m N O W C G S) (hnv : m.nv = .slice (some ⟨gn, 0, none⟩) N.length cap) (hx : N[nd]? = some x) (hk : x.k = T.k) (ht : x.t = T.t) (hK : T.k = 5) (hns : NS w m.s N) (htl : T.t.size ≤ 65536) (hs : m.s.size ≤ 65536) (hi : i ≤ m.s.size) :
    Calls Tryd.prog 34 #[.pointer (some ⟨g, 0, none⟩), .pointer (some ⟨gn, nd * 10, none⟩), .int .i64 (i : Int)] w (OnlySet w B g m N O W C G S T i) := by
  have c0 := h.c0
  have k0 : w.cell? ⟨gn, nd * 10, none⟩ = some (.int .i64 x.k) := h.nodes.cell ndV_len hnv hx (k := 0) rfl
  have hxk : x.k = 5 := hk.trans hK
  rw [hxk] at k0
  have HO := hide (show onl m.s T i = if i < unt m.s T.t false i then some (unt m.s T.t false i) else none by unfold onl; simp [hK])
  have HC := hide (until_node (want := false) h hnv hx (hns nd x hx).1 ((hns nd x hx).2.1 hxk) (by rw [ht]; exact htl) hs hi)
  have HH := hide (And.intro h (And.intro hns (And.intro hx (And.intro ht hxk))))
  clear h hns hx ht hk hK htl hnv hxk
  go_enter Tryd.func34, Tryd.ntmps34
  go_wp2_with fail
  refine (unhide HC).mono ?_
  rintro e w1 ⟨st, fr, to, rfl, r1, f1, s1, q1⟩
  have H1 := hide (And.intro r1 (And.intro f1 (And.intro s1 q1)))
  clear r1 f1 s1 q1 HC
  rw [(unhide HH).2.2.2.1]
  by_cases hB : i < unt m.s T.t false i
  · have hB' : (i : Int) < (unt m.s T.t false i : Int) := by omega
    go_wp2_with fail
    go_ret2
    obtain ⟨h, hns, hx, ht, hxk⟩ := unhide HH
    obtain ⟨r1, f1, s1, q1⟩ := unhide H1
    exact onlySet_until h hns hx (.inl ⟨hxk, rfl⟩) r1 f1 s1 q1 (fun _ => ⟨_, rfl, by rw [unhide HO, if_pos hB]⟩) (fun q => by simp at q)
  · have hB' : ¬ (i : Int) < (unt m.s T.t false i : Int) := by omega
    go_wp2_with fail
    go_ret2
    obtain ⟨h, hns, hx, ht, hxk⟩ := unhide HH
    obtain ⟨r1, f1, s1, q1⟩ := unhide H1
    exact onlySet_until h hns hx (.inl ⟨hxk, rfl⟩) r1 f1 s1 q1 (fun q => by simp at q) (fun _ => by rw [unhide HO, if_neg hB])

set_option maxRecDepth 100000 in
set_option maxHeartbeats 1000000 in
theorem only_break {w : World} {B g gn cap nd i : Nat} {m : MS} {N : List Nd} {O : List Int} {W : List Wr} {C : List Cr} {G S : List Gft} {x : Nd} {T : PT} (h : Rep w B g m N O W C G S) (hnv : m.nv = .slice (some ⟨gn, 0, none⟩) N.length cap) (hx : N[nd]? = some x) (hk : x.k = T.k) (ht : x.t = T.t) (hK : T.k = 6) (hns : NS w m.s N) (htl : T.t.size ≤ 65536) (hs : m.s.size ≤ 65536) (hi : i ≤ m.s.size) :
    Calls Tryd.prog 34 #[.pointer (some ⟨g, 0, none⟩), .pointer (some ⟨gn, nd * 10, none⟩), .int .i64 (i : Int)] w (OnlySet w B g m N O W C G S T i) := by
  have c0 := h.c0
  have k0 : w.cell? ⟨gn, nd * 10, none⟩ = some (.int .i64 x.k) := h.nodes.cell ndV_len hnv hx (k := 0) rfl
  have hxk : x.k = 6 := hk.trans hK
  rw [hxk] at k0
  have HO := hide (show onl m.s T i = if unt m.s T.t true i < m.s.size then some (unt m.s T.t true i) else none by unfold onl; simp [hK])
  have HC := hide (until_node (want := true) h hnv hx (hns nd x hx).1 ((hns nd x hx).2.2 (.inl hxk)) (by rw [ht]; exact htl) hs hi)
  have HH := hide (And.intro h (And.intro hns (And.intro hx (And.intro ht hxk))))
  clear h hns hx ht hk hK htl hnv hxk
  go_enter Tryd.func34, Tryd.ntmps34
  go_wp2_with fail
  refine (unhide HC).mono ?_
  rintro e w1 ⟨st, fr, to, rfl, r1, f1, s1, q1⟩
  have H1 := hide (And.intro r1 (And.intro f1 (And.intro s1 q1)))
  clear r1 f1 s1 q1 HC
  rw [(unhide HH).2.2.2.1]
  by_cases hB : unt m.s T.t true i < m.s.size
  · have hB' : (unt m.s T.t true i : Int) < (m.s.size : Int) := by omega
    go_wp2_with fail
    go_ret2
    obtain ⟨h, hns, hx, ht, hxk⟩ := unhide HH
    obtain ⟨r1, f1, s1, q1⟩ := unhide H1
    exact onlySet_until h hns hx (.inr ⟨.inl hxk, rfl⟩) r1 f1 s1 q1 (fun _ => ⟨_, rfl, by rw [unhide HO, if_pos hB]⟩) (fun q => by simp at q)
  · have hB' : ¬ (unt m.s T.t true i : Int) < (m.s.size : Int) := by omega
    go_wp2_with fail
    go_ret2
    obtain ⟨h, hns, hx, ht, hxk⟩ := unhide HH
    obtain ⟨r1, f1, s1, q1⟩ := unhide H1
    exact onlySet_until h hns hx (.inr ⟨.inl hxk, rfl⟩) r1 f1 s1 q1 (fun q => by simp at q) (fun _ => by rw [unhide HO, if_neg hB])

end Go.Proofs.YtkggmodabpjobaaDoor
