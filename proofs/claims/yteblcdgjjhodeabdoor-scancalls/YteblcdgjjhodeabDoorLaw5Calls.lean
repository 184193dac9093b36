/- A name stands for its pattern: ScanCalls is true of any rules, any number, any text and place. -/
import Derived.Test.YteblcdgjjhodeabDoorLaw5K
namespace Go.Proofs.YteblcdgjjhodeabDoor
open Go.RowKit

theorem ruleOf_first : ∀ (RL : List (ByteArray × PT)) (k : Nat) (r : ByteArray × PT) (i : Nat), RL[k]? = some r → ruleAt r.1 (RL.take k) i < 0 → ruleOf r.1 RL = some r.2
  | [], k, r, i, h, _ => by simp at h
  | x :: l, 0, r, i, h, _ => by
    have : x = r := by simpa using h
    subst this
    rw [ruleOf, if_pos rfl]
  | x :: l, k + 1, r, i, h, hn => by
    rw [List.take_succ_cons, ruleAt] at hn
    split at hn
    · omega
    · rename_i hne
      rw [ruleOf, if_neg hne]
      exact ruleOf_first l k r (i + 1) (by simpa using h) hn
/-- A call of a name. -/
def callP (nm : ByteArray) : PT := ⟨24, ⟨#[]⟩, 0, nm, none, 0, 0, 0, 0, fun i => i.elim0⟩
theorem callP_in {w : World} {nm : ByteArray} (h : nm.size ≤ maxLen) : (callP nm).In w :=
  ⟨(by decide), (by unfold maxLen; decide), (by decide), h, Nat.zero_le _, Nat.le_refl _, (fun h => absurd h (by decide)), fun i => i.elim0⟩
theorem W_call {s : ByteArray} {R : ByteArray → Option PT} {dg : Nat → ByteArray} {n : Nat} {nm : ByteArray} {U : PT} (h : R nm = some U) (i : Nat) (g : List Gft) : W s R dg (n + 1) (callP nm) i g = W s R dg n U i g := by
  unfold W
  have hk : (callP nm).k = 24 := rfl
  rw [D, if_neg (by rw [hk]; decide), if_neg (by rw [hk]; decide), if_neg (by rw [hk]; decide), if_neg (by rw [hk]; decide), if_neg (by rw [hk]; decide), if_neg (by rw [hk]; decide), if_neg (by rw [hk]; decide), if_neg (by rw [hk]; decide), if_neg (by rw [hk]; decide), if_neg (by rw [hk]; decide), if_pos hk, onlyW_tk, show (callP nm).nm = nm from rfl, h]
theorem calls_alike {RL : List (ByteArray × PT)} {rv : Value} (dg : Nat → ByteArray) (k : Nat) (r : ByteArray × PT) (hr : RL[k]? = some r) (s : ByteArray) (i : Int) (w : World) (hV : RVal w RL rv) (hIt : ItoaSays dg w) (hr2 : r.2.In w) (hS : Shapes w) (hs : s.size ≤ maxLen) :
    Calls Tryd.prog 15 #[rv, .agg #[.int .i64 24, .string ⟨#[]⟩, .int .i64 0, .string r.1, .slice none 0 0], .agg #[.int .i64 r.2.k, .string r.2.t, .int .i64 r.2.n, .string r.2.nm, .slice r.2.xa r.2.len r.2.cap], .string s, .int .i64 i] w fun e w' => e = .returned (.bool true) ∧ Below w.heap.size w w' :=
  alike_all dg (callP r.1) r.2 s i w hV hIt (callP_in (hV.1 k r hr)) hr2 hS hs fun h1 h2 => same_of_le h1 h2 fun j _ hw => ⟨20001, Nat.le_refl _, by
    have hq := ((rules_right (wrongR_ok hw).2.1).2 k r hr).2.1
    rw [show (20001 : Nat) = 20000 + 1 from rfl, W_call (ruleOf_first RL k r 0 hr hq)]
    exact W_le (by omega) r.2 j []⟩

theorem tabs_calls {w : World} (h : laidMetH Tryd.prog Rows.scanCallsRow.laid w) : Shapes w ∧ ItoaSays dgI w := by
  have e : (Rows.scanCallsRow.laid.filter fun x => x.2.handleName?.isSome) = [] := by kernel_rfl
  have h' : laidMet Tryd.prog Rows.scanCallsRow.laid w := by
    have hp := h
    unfold laidMetH at hp
    rw [e] at hp
    exact hp
  refine ⟨shapes_of (rest := []) (laidMet.tail (laidMet.tail (laidMet.tail h'))), itoa_says ?_⟩
  exact Lib.tabIs_of_head (g := 1) (t := 124) (e := 111) (n := 20) (by kernel_rfl) (by kernel_rfl) Tryd.underlying124 Tryd.underlying111 (by kernel_rfl) (by kernel_rfl) (rest := _) (show laidMet Tryd.prog (("internal/strconv.uint64pow10", Lib.tabData .u64 Lib.pow10Tab) :: _) w from h'.tail.tail)

set_option maxRecDepth 100000 in
set_option maxHeartbeats 4000000 in
theorem scanCalls_walk {RL : List (ByteArray × PT)} {rv : Value} {dg : Nat → ByteArray} (which : Int) (s : ByteArray) (i : Int) (w : World) (hV : RVal w RL rv) (hs : s.size ≤ maxLen) (hS : Shapes w) (hIt : ItoaSays dg w) :
    Calls Tryd.prog 5 #[rv, .int .i64 which, .string s, .int .i64 i] w fun e w' => e = .returned (.bool true) ∧ Below w.heap.size w w' := by
  have HA := hide (alive5 w hIt hS)
  by_cases h : 0 ≤ which ∧ which < (RL.length : Int)
  · obtain ⟨k, rfl⟩ : ∃ k : Nat, which = k := ⟨which.toNat, by omega⟩
    have hk : k < RL.length := by omega
    obtain ⟨r, hr⟩ : ∃ r, RL[k]? = some r := ⟨_, List.getElem?_eq_getElem hk⟩
    have HK := hide (fun W (h : Below w.heap.size w W) (h2 : r.2.In W) => calls_alike dg k r hr s i W (hV.later h) (hIt.later h) h2 (hS.later h) hs)
    rcases hV.2 with ⟨rfl, -⟩ | ⟨b, o, cap, rfl, hc, hat⟩
    · simp at hk
    have hx : ¬ (RL.length : Int) ≤ (k : Int) := by omega
    have h0 : ¬ (k : Int) < 0 := by omega
    have hia := idx_run' (b := b) (o := o) (n := RL.length) (cap := cap) hk
    have HT := hide (And.intro hat hr)
    clear hV hS hIt hat hr h
    go_enter Tryd.func5, Tryd.ntmps5
    go_wp2_with fail
    refine (unhide HA).mono ?_
    rintro e w1 ⟨rfl, hb1⟩
    obtain ⟨q0, q1, q2, q3, q4, q5⟩ := ((unhide HT).1.later hb1).cells k r (unhide HT).2
    unfold PT.kv at q5
    have HP := hide (PT.In.later (bnext hb1 ((Below.refl _ _).drew)) ((unhide HT).1.pats k r (unhide HT).2))
    have HB1 := hide hb1
    clear hb1 HA
    go_wp2_with fail
    go_region_held3 (fun w' => w'.cell? ⟨b, o + k * 6, none⟩ = some (.string r.1) ∧ w'.cell? ⟨b, o + k * 6 + 1, none⟩ = some (.int .i64 r.2.k) ∧ w'.cell? ⟨b, o + k * 6 + 2, none⟩ = some (.string r.2.t) ∧ w'.cell? ⟨b, o + k * 6 + 3, none⟩ = some (.int .i64 r.2.n) ∧ w'.cell? ⟨b, o + k * 6 + 4, none⟩ = some (.string r.2.nm) ∧ w'.cell? ⟨b, o + k * 6 + 5, none⟩ = some (.slice r.2.xa r.2.len r.2.cap))
      (first | exact ⟨q0, q1, q2, q3, q4, q5⟩ | exact ⟨cell_later hb7 q0, cell_later hb7 q1, cell_later hb7 q2, cell_later hb7 q3, cell_later hb7 q4, cell_later hb7 q5⟩)
      (first | (go_at_call 15; (with_reducible refine (unhide HK _ ?_ ?_).mono ?_); exact bnext (unhide HB1) ((Below.refl _ _).drew); exact unhide HP; rintro e w7 ⟨rfl, hb7⟩))
    go_wp2_with fail
    go_ret
    exact ⟨rfl, bnext (bnext (unhide HB1) ((Below.refl _ _).drew)) hb7⟩
  · obtain ⟨xa, cap, rfl⟩ : ∃ xa cap, rv = .slice xa RL.length cap := by
      rcases hV.2 with ⟨rfl, xa, cap, rfl⟩ | ⟨b, o, cap, rfl, -, -⟩
      · exact ⟨xa, cap, rfl⟩
      · exact ⟨_, cap, rfl⟩
    clear hV hS hIt
    rcases (show which < 0 ∨ (¬ which < 0 ∧ (RL.length : Int) ≤ which) by omega) with q | ⟨q, q'⟩
    all_goals
      clear h
      go_enter Tryd.func5, Tryd.ntmps5
      go_wp2_with fail
      refine (unhide HA).mono ?_
      rintro e w1 ⟨rfl, hb1⟩
      go_wp2_with fail
      go_ret
      exact ⟨rfl, hb1⟩
end Go.Proofs.YteblcdgjjhodeabDoor
