/- What syntax.wrongBelow and Wrong do, for every pattern. Statements: what they are made of, and what is wrong with targets and functions. -/
import Derived.Test.YtpphjddljngkmaaGreatDoorPatBelowM
import Derived.Test.YtpphjddljngkmaaGreatDoorExWrongP
import Derived.Deep.RegionHeld3
namespace Go.Proofs.YtpphjddljngkmaaGreatDoor
open Go.RowKit

def BadXSays (T : PT) : Prop := ∀ (w : World), T.In w → ShapesX w →
  Calls Tryz.prog 13 #[.agg #[.int .i64 T.k, .string T.t, .int .i64 T.n, .string T.nm, .slice T.xa T.len T.cap]] w fun e w' => e = .returned (.int .i64 T.badX) ∧ Below w.heap.size w w'
set_option maxRecDepth 100000 in
set_option maxHeartbeats 1000000 in
theorem badx_step (T : PT) (ih : ∀ i, i < T.len → BadXSays (T.kid i)) : BadXSays T := by
  intro w hT hS
  have HN := hide (fun W (h : Below w.heap.size w W) => nodex_any T W (PT.In.later h hT) (hS.later h))
  unfold pv at HN
  have hmax := hT.max
  unfold maxLen at hmax
  have HD := hide (And.intro hT (And.intro hS (And.intro ih T.badX_eq)))
  clear hT hS ih
  have hk0 := (Below.refl w.heap.size w).alloc (Nat.le_refl _) (.cells #[.int .i64 T.k, .string T.t, .int .i64 T.n, .string T.nm, .slice T.xa T.len T.cap] 25)
  go_enter Tryz.func13, Tryz.ntmps13
  go_wp2_with fail
  refine (unhide HN _ hk0).mono ?_
  rintro e w1 ⟨rfl, hb1⟩
  have hb := bnext hk0 hb1
  have c4 : w1.cell? ⟨w.heap.size, 4, none⟩ = some (.slice T.xa T.len T.cap) := cell_later hb1 (cr (at_new rfl))
  have HB := hide hb
  clear hk0 hb1 hb HN
  by_cases he : errX T = 0
  · have H0 : Hid (T.badX = firstTo (fun i => (T.kid i).badX) T.len) := hide (by rw [(unhide HD).2.2.2, if_pos he])
    rw [he]
    clear he
    go_wp2_with fail
    go_loopw [15] (fun i wr => ∃ k : Nat, k ≤ T.len ∧ i = .int .i64 (k : Int) ∧ Below w.heap.size w wr ∧ firstTo (fun i => (T.kid i).badX) k = 0) (fun i _ => T.len - (intOf i).toNat)
    case atStart => exact ⟨0, by omega, rfl, unhide HB, rfl⟩
    case round =>
      obtain ⟨k, hk, rfl, hbr, hf⟩ := hrel
      clear c4
      have HF := hide hf
      clear hf
      rcases Nat.lt_or_ge k T.len with hkt | hkt
      · obtain ⟨hT, hS, ih, -⟩ := unhide HD
        obtain ⟨k0, k1, k2, k3, k4⟩ := hT.cells hkt
        have k0 := cell_later hbr k0
        have k1 := cell_later hbr k1
        have k2 := cell_later hbr k2
        have k3 := cell_later hbr k3
        have k4 := cell_later hbr k4
        unfold PT.kv at k4
        have hia := kidx_at hT hkt
        have HX := hide (And.intro (PT.In.later hbr (hT.kids hkt)) (hS.later hbr))
        have HI := hide (ih k hkt)
        have HBR := hide hbr
        clear hT hS ih hbr
        go_wp2_with fail
        have hn := (Below.refl wr.heap.size wr).alloc (Nat.le_refl _) (.cells #[.int .i64 (T.kid k).k, .string (T.kid k).t, .int .i64 (T.kid k).n, .string (T.kid k).nm, .slice (T.kid k).xa (T.kid k).len (T.kid k).cap] 25)
        refine (unhide HI _ (PT.In.later hn (unhide HX).1) ((unhide HX).2.later hn)).mono ?_
        rintro e w2 ⟨rfl, hb2⟩
        have HB2 := hide (bnext (bnext (unhide HBR) hn) hb2)
        clear hn hb2
        by_cases he : (T.kid k).badX = 0
        · have HW : Hid (firstTo (fun i => (T.kid i).badX) (k + 1) = 0) := hide (by rw [firstTo, if_pos (unhide HF)]; exact he)
          rw [he]
          clear he
          go_wp2_with fail
          exact ⟨⟨k + 1, by omega, by go_num, unhide HB2, unhide HW⟩, by simp [intOf]; omega⟩
        · have HW : Hid (T.badX = (T.kid k).badX) := hide (by
            have h1 : firstTo (fun i => (T.kid i).badX) (k + 1) = (T.kid k).badX := by rw [firstTo, if_pos (unhide HF)]
            rw [unhide H0, firstTo_stays _ (show k + 1 ≤ T.len from hkt) (by rw [h1]; exact he), h1])
          have hne : ((T.kid k).badX != 0) = true := by rw [bne_iff_ne]; exact he
          clear he
          go_wp2_with fail
          go_ret
          exact ⟨by rw [unhide HW]; rfl, unhide HB2⟩
      · have hk' : k = T.len := by omega
        have HBR := hide hbr
        clear hbr
        go_wp2_with fail
        go_ret
        exact ⟨by rw [unhide H0, ← hk', unhide HF]; rfl, unhide HBR⟩
  · have H0 : Hid (T.badX = errX T) := hide (by rw [(unhide HD).2.2.2, if_neg he])
    have hne : (errX T != 0) = true := by rw [bne_iff_ne]; exact he
    clear he
    go_wp2_with fail
    go_ret
    exact ⟨by rw [unhide H0]; rfl, unhide HB⟩
theorem badx_any : ∀ T : PT, BadXSays T := PT.ind badx_step
set_option maxRecDepth 100000 in
set_option maxHeartbeats 1000000 in
theorem expr_any (T : PT) (w : World) (hT : T.In w) (hS : ShapesX w) :
    Calls Tryz.prog 4 #[pv T] w fun e w' => e = .returned (.int .i64 T.wrongX) ∧ Below w.heap.size w w' := by
  have HZ := hide (fun W (h : Below w.heap.size w W) => tooMuch_any T W (PT.In.later h hT))
  have HB := hide (fun W (h : Below w.heap.size w W) => badx_any T W (PT.In.later h hT) (hS.later h))
  clear hT hS
  unfold pv at HZ
  unfold pv
  have hk0 := (Below.refl w.heap.size w).alloc (Nat.le_refl _) (.cells #[.int .i64 T.k, .string T.t, .int .i64 T.n, .string T.nm, .slice T.xa T.len T.cap] 25)
  go_enter Tryz.func4, Tryz.ntmps4
  go_wp2_with fail
  refine (unhide HZ _ hk0).mono ?_
  rintro e w1 ⟨rfl, hb1⟩
  have H1 := hide (bnext hk0 hb1)
  have hrow : w1.heap[w.heap.size]? = some (.cells #[.int .i64 T.k, .string T.t, .int .i64 T.n, .string T.nm, .slice T.xa T.len T.cap] 25 (0, 0)) := row_below (at_new rfl) hb1
  have c0 : w1.cell? ⟨w.heap.size, 0, none⟩ = some (.int .i64 T.k) := cr hrow
  have c1 : w1.cell? ⟨w.heap.size, 1, none⟩ = some (.string T.t) := cr hrow
  have c2 : w1.cell? ⟨w.heap.size, 2, none⟩ = some (.int .i64 T.n) := cr hrow
  have c3 : w1.cell? ⟨w.heap.size, 3, none⟩ = some (.string T.nm) := cr hrow
  have c4 : w1.cell? ⟨w.heap.size, 4, none⟩ = some (.slice T.xa T.len T.cap) := cr hrow
  clear hk0 hb1 hrow HZ
  cases hf : T.fits
  · have HW : Hid (T.wrongX = 4) := hide (by unfold PT.wrongX; rw [hf]; rfl)
    clear hf
    go_wp2_with fail
    go_ret
    exact ⟨by rw [unhide HW]; rfl, unhide H1⟩
  · have HW : Hid (T.wrongX = T.badX) := hide (by unfold PT.wrongX; rw [hf]; rfl)
    clear hf
    go_wp2_with fail
    refine (unhide HB _ (unhide H1)).mono ?_
    rintro e w2 ⟨rfl, hb2⟩
    have H2 := hide (bnext (unhide H1) hb2)
    clear hb2
    go_wp2_with fail
    go_ret
    exact ⟨by rw [unhide HW]; rfl, unhide H2⟩
end Go.Proofs.YtpphjddljngkmaaGreatDoor

namespace Go.Proofs.YtpphjddljngkmaaGreatDoor
open Go.RowKit

/-- A statement: its label, kind, target, value, pattern, name, entry, parameters, locals, and where it goes on. -/
structure SV where
  lab : ByteArray
  k : Int
  tg : PT
  va : PT
  pa : PT
  nm : ByteArray
  en : ByteArray
  ps : NL
  ls : NL
  al : ByteArray
  ye : ByteArray
  no : ByteArray
def SV.cells (S : SV) : Array Value := #[.string S.lab, .int .i64 S.k, .int .i64 S.tg.k, .string S.tg.t, .int .i64 S.tg.n, .string S.tg.nm, .slice S.tg.xa S.tg.len S.tg.cap, .int .i64 S.va.k, .string S.va.t, .int .i64 S.va.n, .string S.va.nm, .slice S.va.xa S.va.len S.va.cap, .int .i64 S.pa.k, .string S.pa.t, .int .i64 S.pa.n, .string S.pa.nm, .slice S.pa.xa S.pa.len S.pa.cap, .string S.nm, .string S.en, S.ps.v, S.ls.v, .string S.al, .string S.ye, .string S.no]
def SV.v (S : SV) : Value := .agg S.cells
structure SV.In (w : World) (S : SV) : Prop where
  txt : S.lab.size ≤ maxLen ∧ S.nm.size ≤ maxLen ∧ S.en.size ≤ maxLen ∧ S.al.size ≤ maxLen ∧ S.ye.size ≤ maxLen ∧ S.no.size ≤ maxLen
  tg : S.tg.In w
  va : S.va.In w
  pa : S.pa.In w
  ps : S.ps.In w
  ls : S.ls.In w
theorem sv_size (S : SV) : S.cells.size = 24 := rfl
theorem SV.In.later {w w' : World} {S : SV} (h : S.In w) (hb : Below w.heap.size w w') : S.In w' := ⟨h.txt, PT.In.later hb h.tg, PT.In.later hb h.va, PT.In.later hb h.pa, h.ps.later hb, h.ls.later hb⟩
def isPl (k : Int) : Bool := decide (k = 3) || decide (k = 4) || decide (k = 5)
set_option maxHeartbeats 400000 in
theorem isPlace_any (k : Int) (w : World) : Calls Tryz.prog 37 #[.int .i64 k] w fun e w' => e = .returned (.bool (isPl k)) ∧ w' = w := by
  by_cases h3 : k = 3
  · subst h3
    go_enter Tryz.func37, Tryz.ntmps37
    go_wp2_with fail
    go_ret
    exact ⟨rfl, rfl⟩
  · by_cases h4 : k = 4
    · subst h4
      go_enter Tryz.func37, Tryz.ntmps37
      go_wp2_with fail
      go_ret
      exact ⟨rfl, rfl⟩
    · by_cases h5 : k = 5
      · subst h5
        go_enter Tryz.func37, Tryz.ntmps37
        go_wp2_with fail
        go_ret
        exact ⟨rfl, rfl⟩
      · have HP : Hid (isPl k = false) := hide (by unfold isPl; rw [decide_eq_false h3, decide_eq_false h4, decide_eq_false h5]; rfl)
        have q3 : (k == 3) = false := bn h3
        have q4 : (k == 4) = false := bn h4
        have q5 : (k == 5) = false := bn h5
        clear h3 h4 h5
        go_enter Tryz.func37, Tryz.ntmps37
        go_wp2_with fail
        go_ret
        exact ⟨by rw [unhide HP]; rfl, rfl⟩
def tgE (T : PT) : Int := if T.wrongX ≠ 0 then T.wrongX else if isPl T.k = true then 0 else 8
set_option maxRecDepth 100000 in
set_option maxHeartbeats 1000000 in
theorem wrongTarget_any (T : PT) (w : World) (hT : T.In w) (hS : ShapesX w) :
    Calls Tryz.prog 19 #[pv T] w fun e w' => e = .returned (.int .i64 (tgE T)) ∧ Below w.heap.size w w' := by
  have hk0 := (Below.refl w.heap.size w).alloc (Nat.le_refl _) (.cells #[.int .i64 T.k, .string T.t, .int .i64 T.n, .string T.nm, .slice T.xa T.len T.cap] 25)
  have HX := hide (expr_any T _ (PT.In.later hk0 hT) (hS.later hk0))
  have HIP := hide (isPlace_any T.k)
  have HE : Hid (tgE T = if T.wrongX ≠ 0 then T.wrongX else if isPl T.k = true then 0 else 8) := hide (rfl)
  clear hT hS hk0
  generalize T.wrongX = er at *
  unfold pv at HX ⊢
  go_enter Tryz.func19, Tryz.ntmps19
  go_wp2_with fail
  refine (unhide HX).mono ?_
  rintro e w1 ⟨rfl, hb1⟩
  have HB1 := hide (((Below.refl w.heap.size w).alloc (Nat.le_refl _) (.cells #[.int .i64 T.k, .string T.t, .int .i64 T.n, .string T.nm, .slice T.xa T.len T.cap] 25)) |> fun h => bnext h hb1)
  have c0 : w1.cell? ⟨w.heap.size, 0, none⟩ = some (.int .i64 T.k) := cr (row_below (at_new rfl) hb1)
  clear hb1
  by_cases h0 : er = 0
  · have q : (er == 0) = true := bt h0
    have HE2 : Hid (tgE T = if isPl T.k = true then 0 else 8) := hide (by rw [unhide HE, if_neg (by simp [h0])])
    clear h0 HE
    go_wp2_with fail
    refine (unhide HIP w1).mono ?_
    rintro e w1 ⟨rfl, rfl⟩
    cases hp : isPl T.k
    · rw [hp, if_neg (by decide)] at HE2
      go_wp2_with fail
      go_ret
      exact ⟨by rw [unhide HE2]; rfl, unhide HB1⟩
    · rw [hp, if_pos rfl] at HE2
      go_wp2_with fail
      go_ret
      exact ⟨by rw [unhide HE2]; rfl, unhide HB1⟩
  · have q : (er == 0) = false := bn h0
    have HE2 : Hid (tgE T = er) := hide (by rw [unhide HE, if_pos h0])
    clear h0 HE
    go_wp2_with fail
    go_ret
    exact ⟨by rw [unhide HE2]; rfl, unhide HB1⟩
end Go.Proofs.YtpphjddljngkmaaGreatDoor
