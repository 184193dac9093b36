/- It begins as it says: TuneFirst is true of any rules, any pattern, any text and place. -/
import Derived.Test.YtjfahpklemohgaaDoorLenAliveM
import Derived.Test.YtjfahpklemohgaaDoorFirstPlain
import Derived.Test.YtjfahpklemohgaaDoorFirstWalkM
import Derived.Test.YtjfahpklemohgaaDoorScanWaysR
import Derived.Test.YtjfahpklemohgaaDoorOpenRules
import Derived.Test.YtjfahpklemohgaaDoorScanItoa
import Derived.Deep.DeepHandedRow
import Derived.Stop.LaidErr
import Derived.Lib.LaidTab
namespace Go.Proofs.YtjfahpklemohgaaDoor
open Go.RowKit

theorem tab_later {w W : World} {nm : String} {k : IntKind} {zs : List Int} (h : Lib.TabIs Tryd.prog w nm k zs) (hb : Below w.heap.size w W) : Lib.TabIs Tryd.prog W nm k zs := by
  unfold Lib.TabIs World.var? at h ⊢
  cases hg : Tryd.prog.globalNamed nm with
  | none => rw [hg] at h; cases h
  | some g =>
    simp only [hg, Option.bind_some] at h ⊢
    rcases Nat.lt_or_ge g w.heap.size with q | q
    · rw [hb.block g q]; exact h
    · rw [Array.getElem?_eq_none q] at h
      cases h
/-- How numbers are written. -/
def dgI (n : Nat) : ByteArray := ⟨(Lib.itoa (n : Int)).toArray⟩
theorem itoa_says {w : World} (h : Lib.TabIs Tryd.prog w "internal/strconv.uint64pow10" .u64 Lib.pow10Tab) : ItoaSays dgI w := fun n hn W hW => itoa_any n (by omega) W (tab_later h hW)

theorem ruleOf_mem {nm : ByteArray} {U : PT} : ∀ {RL : List (ByteArray × PT)}, ruleOf nm RL = some U → ∃ (i : Nat) (r : ByteArray × PT), RL[i]? = some r ∧ r.2 = U
  | [], h => by cases h
  | x :: l, h => by
    rw [ruleOf] at h
    split at h
    · exact ⟨0, x, rfl, Option.some.inj h⟩
    · obtain ⟨i, r, h1, h2⟩ := ruleOf_mem h
      exact ⟨i + 1, r, by simpa using h1, h2⟩
theorem tld_sub : ∀ (l : List Ev) (en k f : Nat), ∀ x ∈ (tld l en k f).1, x ∈ prsW l
  | [], en, k, f, x, h => by rw [tld] at h; cases h
  | y :: l, en, k, f, x, h => by
    rw [tld] at h
    rw [prsW_cons]
    split at h
    · cases h
    split at h
    · rename_i h3
      rw [if_pos h3]
      rcases List.mem_cons.1 h with rfl | h
      · exact List.mem_cons_self ..
      · exact List.mem_cons_of_mem _ (tld_sub l en (k - 1) f x h)
    · rename_i h3
      rw [if_neg h3]
      split at h
      · split at h
        · cases h
        · exact tld_sub l en k (f - 1) x h
      · exact tld_sub l en k f x h
theorem al_prs {P : Nat → Prop} {q : Sq} (h : Al P q) : ∀ x ∈ prsW q.1, P x.1 := fun x hx => by
  unfold prsW wys at hx
  obtain ⟨y, hy, rfl⟩ := List.mem_map.1 hx
  have := List.mem_filter.1 hy
  exact h y this.1 (by simpa using this.2)
theorem ways_fst {RL : List (ByteArray × PT)} {dg : Nat → ByteArray} {T : PT} {s : ByteArray} {i : Int} {L : List (Nat × List Gft)} {cut : Bool} (h : (L, cut, (0 : Int)) = waysOf RL dg T s i 4096 20000) :
    T.wrong = 0 ∧ ∃ j : Nat, i = j ∧ j ≤ s.size ∧ s.size ≤ 65536 ∧ ∀ x ∈ L, In3 s T.fst j x.1 := by
  unfold waysOf at h
  by_cases hw : wrongR RL T s 20000 = 0
  · rw [if_neg (by rw [hw]; simp)] at h
    obtain ⟨q1, q2, q3, -, -⟩ := wrongR_ok hw
    by_cases hr : i < 0 ∨ (s.size : Int) < i ∨ (4096 : Int) < 0 ∨ (4096 : Int) < 4096
    · rw [if_pos hr] at h
      exact absurd (congrArg (fun z => z.2.2) h) (by show ¬ ((0 : Int) = 3); decide)
    · rw [if_neg hr] at h
      obtain ⟨j, rfl⟩ : ∃ j : Nat, i = j := ⟨i.toNat, by omega⟩
      refine ⟨q1, j, rfl, by omega, q3, ?_⟩
      split at h
      · exact absurd (congrArg (fun z => z.2.2) h) (by show ¬ ((0 : Int) = 10); decide)
      split at h
      · exact absurd (congrArg (fun z => z.2.2) h) (by show ¬ ((0 : Int) = 7); decide)
      have hL : L = (told RL dg T s (j : Int).toNat (4096 : Int).toNat (20000 : Int).toNat).1 := congrArg (fun z => z.1) h
      rw [Int.toNat_natCast] at hL
      intro x hx
      rw [hL] at hx
      unfold told at hx
      exact al_prs (D_fst (R := fun nm => ruleOf nm RL) (fun nm U hU => by
        obtain ⟨n, r, h1, rfl⟩ := ruleOf_mem hU
        exact (right_of ((rules_right q2).2 n r h1).2.2).1) _ T j [] (right_of q1).1 (by omega)) x (tld_sub _ _ _ _ x hx)
  · rw [if_pos hw] at h
    exact absurd (congrArg (fun z => z.2.2) h).symm hw

theorem tabs_first {w : World} (h : laidMetH Tryd.prog Rows.tuneFirstRow.laid w) : Shapes w ∧ ItoaSays dgI w := by
  have e : (Rows.tuneFirstRow.laid.filter fun x => x.2.handleName?.isSome) = [] := by kernel_rfl
  have h' : laidMet Tryd.prog Rows.tuneFirstRow.laid w := by
    have hp := h
    unfold laidMetH at hp
    rw [e] at hp
    exact hp
  refine ⟨shapes_of (rest := []) (laidMet.tail (laidMet.tail (laidMet.tail h'))), itoa_says ?_⟩
  exact Lib.tabIs_of_head (g := 1) (t := 139) (e := 27) (n := 20) (by kernel_rfl) (by kernel_rfl) Tryd.underlying139 Tryd.underlying27 (by kernel_rfl) (by kernel_rfl) (rest := _) (show laidMet Tryd.prog (("internal/strconv.uint64pow10", Lib.tabData .u64 Lib.pow10Tab) :: _) w from h'.tail.tail)

theorem set4_cell {w : World} {z : Nat} {p : Nat → Bool} (h : w.heap[z]? = some (setO (sc p))) (k : Nat) (hk : k < 4) : w.cell? ⟨z, k, none⟩ = some (.int .u64 (wd p k : Int)) := by
  rw [cell_of_row w _ _ _ _ _ h, sc_at p k hk]
theorem bit_word (p : Nat → Bool) (b : Nat) : (wd p (b / 64)).testBit (b % 64) = p b := by
  rw [wd_bit, decide_eq_true (Nat.mod_lt _ (by decide)), Bool.true_and, Nat.div_add_mod]
theorem run_index_str (s : ByteArray) (j : Nat) (h : j < s.size) (W : World) : (Instr.index 9 (.string s) (.int .i64 (j : Int))).run Tryd.prog W = .ok (.int .u8 ((s[j]).toNat : Int)) W := by
  have hu := Tryd.underlying9
  simp [Instr.index, underlying, hu, asIntOf, Sem.run_bind, Result.andThen, h]

set_option maxRecDepth 100000 in
set_option maxHeartbeats 4000000 in
theorem tuneFirst_walk {RL : List (ByteArray × PT)} {rv : Value} {dg : Nat → ByteArray} (T : PT) (s : ByteArray) (i : Int) (w : World) (hV : RVal w RL rv) (hT : T.In w) (hs : s.size ≤ maxLen) (hS : Shapes w) (hIt : ItoaSays dg w) :
    Calls Tryd.prog 3 #[rv, pv T, .string s, .int .i64 i] w fun e w' => e = .returned (.bool true) ∧ Below w.heap.size w w' := by
  have HA := hide (fun W (h : Below w.heap.size w W) => alive6 W (hS.later h))
  obtain ⟨fs, hfs⟩ : ∃ fs, fs = fstSaid T := ⟨_, rfl⟩
  have HL := hide (fun W (h : Below w.heap.size w W) => first_any T W (PT.In.later h hT) (hS.later h))
  have HY := hide (fun W (h : Below w.heap.size w W) => ways_any dg T s i 4096 20000 W (hV.later h) (hIt.later h) (PT.In.later h hT) (hS.later h) hs)
  rw [← hfs] at HL
  unfold pv at HL HY ⊢
  have HFS := hide hfs
  obtain ⟨p, nl, er0⟩ := fs
  dsimp only at HL
  obtain ⟨D, hD⟩ : ∃ D, D = sc p := ⟨_, rfl⟩
  have hDs : D.size = 4 := by rw [hD]; rfl
  have hD1 : D.all (·.oneCell') = true := by rw [hD]; exact sc_one _
  have hiD : (Tryd.prog.info? 29).map (·.size) = some D.size := by rw [hDs]; exact size_set
  have HID := hide hiD
  rw [← hD] at HL
  have HD := hide hD
  have HSZ := hide hs
  clear hV hT hs hS hIt hfs hD hiD
  go_enter Tryd.func3, Tryd.ntmps3
  go_wp2_with fail
  refine (unhide HA _ ((Below.refl _ _).alloc (Nat.le_refl _) _)).mono ?_
  rintro e w1 ⟨rfl, hb1⟩
  have g1 := row_below (at_new (w := w) (o := .cells #[.int .i64 T.k, .string T.t, .int .i64 T.n, .string T.nm, .slice T.xa T.len T.cap] 25) rfl) hb1
  have HB1 := hide (bnext ((Below.refl w.heap.size w).alloc (Nat.le_refl _) _) hb1)
  obtain ⟨y0, y1, y2, y3, y4⟩ := box5 g1
  have HG1 := hide g1
  clear hb1 g1 HA
  go_wp2_with fail
  refine (unhide HL _ (unhide HB1)).mono ?_
  rintro e w2 ⟨rfl, hb2⟩
  have g2 := row_below (unhide HG1) hb2
  have hl2 : w.heap.size < w2.heap.size := (Array.getElem?_eq_some_iff.1 g2).1
  have HB2 := hide (bnext (unhide HB1) hb2)
  obtain ⟨W, hW⟩ : ∃ W, W = (w2.alloc (setO zerosS)).setRow w2.heap.size D := ⟨_, rfl⟩
  have g3 : W.heap[w.heap.size]? = some (.cells #[.int .i64 T.k, .string T.t, .int .i64 T.n, .string T.nm, .slice T.xa T.len T.cap] 25 (0, 0)) := by rw [hW]; exact (setRow_other _ _ _ _ (by omega)).trans (at_keep3 g2)
  have r3 : W.heap[w2.heap.size]? = some (setO D) := by rw [hW]; exact setRow_heap _ _ _ _ _ _ (at_new rfl)
  have HB3 : Hid (Below w.heap.size w W) := hide (by rw [hW]; exact below_setRow ((unhide HB2).alloc (by omega) _) _ (by omega) _)
  have HW := hide hW
  have HR3 := hide r3
  clear y0 y1 y2 y3 y4
  obtain ⟨y0, y1, y2, y3, y4⟩ := box5 g3
  clear hb2 g2 g3 HG1 HB1 HL hW r3
  dsimp only
  go_wp2_with (first
    | (refine wpList_store_eq rfl 29 _ _ rfl w2.heap.size D rfl rfl 29 zerosS (at_new rfl) (unhide HID) hDs.symm hD1 (unhide HW) ?_)
    | fail)
  refine (unhide HY _ (unhide HB3)).mono ?_
  rintro e w3 ⟨vl, L, cut, er, rfl, hL, hb3, hLr⟩
  obtain ⟨al, cl, hvl, -, -⟩ := hL.row.len
  subst hvl
  have HB4 := hide (bnext (unhide HB3) hb3)
  have HR4 := hide (row_below (unhide HR3) hb3)
  have HLL := hide hL
  clear hb3 y0 y1 y2 y3 y4 HB2 HY hL HB3 HR3 HW
  by_cases her : er = 0
  · subst her
    obtain ⟨hw, j, rfl, hj, hsz, hall⟩ := ways_fst hLr
    have hst : (p, nl, er0) = (T.fst.1, T.fst.2, (0 : Int)) := by rw [unhide HFS, fstSaid, if_pos hw]
    obtain ⟨x, hx⟩ : ∃ x, x = T.fst := ⟨_, rfl⟩
    rw [← hx] at hst hall
    obtain ⟨x0, x1⟩ := x
    injection hst with e1 e2
    injection e2 with e2 e3
    subst e1 e2 e3
    clear hLr HFS hw hx
    have HALL := hide hall
    have hLm := (unhide HLL).row.max
    unfold maxLen at hLm
    have HJ := hide (And.intro hj hsz)
    have hjI : (0 : Int) ≤ (j : Int) := by omega
    clear hall hj hsz
    go_wp2_with fail
    go_loopw [40] (fun q wr => ∃ k : Nat, k ≤ L.length ∧ q = .int .i64 (k : Int) ∧ Below w3.heap.size w3 wr) (fun q _ => L.length - (intOf q).toNat)
    case atStart => exact ⟨0, Nat.zero_le _, rfl, Below.refl _ _⟩
    case round =>
      obtain ⟨k, hk, rfl, hb⟩ := hrel
      rcases Nat.lt_or_ge k L.length with hlt | hge
      · have hlt' : (k : Int) < (L.length : Int) := by omega
        have HMS := hide (show L.length - (intOf (Value.int IntKind.i64 ((k : Int) + 1))).toNat < L.length - (intOf (Value.int IntKind.i64 (k : Int))).toNat by simp [intOf]; omega)
        obtain ⟨lx, hlx⟩ : ∃ x, L[k]? = some x := ⟨_, List.getElem?_eq_getElem hlt⟩
        have hLw := (unhide HLL).later hb
        obtain ⟨h1, h2, h3, h4⟩ := unhide HALL lx.pr (List.mem_map_of_mem (List.mem_of_getElem? hlx))
        obtain ⟨hj, hsz⟩ := unhide HJ
        obtain ⟨gl, cl2, hgl, -⟩ := hLw.row.form (by intro e; rw [e] at hlt; simp at hlt)
        injection hgl with hg1 hg2 hg3
        subst hg1 hg3
        have o0 : wr.cell? ⟨gl, k * 2, none⟩ = some (.int .i64 (lx.to : Int)) := hLw.row.cell wyV_len rfl hlx (k := 0) rfl
        have o1 : wr.cell? ⟨gl, k * 2 + 1, none⟩ = some (.slice lx.ga lx.G.length lx.gc) := hLw.row.cell wyV_len rfl hlx (k := 1) rfl
        have i0 := idx_run (g := gl) (n := L.length) (cap := cl) Tryd.underlying33 size_way hlt
        have t1 : lx.pr.1 = lx.to := rfl
        rw [t1] at h1 h2 h3 h4
        dsimp only at h3 h4
        have hk1 : wrap64 ((k : Int) + 1) = (k : Int) + 1 := IntWalk.wrap64_in _ (by omega)
        have hk2 : IntKind.i64.wrap ((k : Int) + 1) = (k : Int) + 1 := (IntWalk.i64_left _).trans hk1
        have HBB := hide hb
        have hbs := hb.size
        rcases Nat.lt_or_ge j lx.to with hjl | hjl
        · have c1 : ((lx.to : Int) == (j : Int)) = false := by rw [beq_eq_false_iff_ne]; omega
          have c2 : (j : Int) < (lx.to : Int) := by omega
          have hjs : j < s.size := by omega
          have hjs' : (j : Int) < (s.size : Int) := by omega
          have hbit := h4 hjl
          have r5 := row_below (unhide HR4) hb
          rw [unhide HD] at r5
          have r6 : (wr.alloc (.cells #[.int .i64 (lx.to : Int), .slice lx.ga lx.G.length lx.gc] 38 (0, 0))).heap[w2.heap.size]? = some (setO (sc p)) := at_keep3 r5
          obtain ⟨b, hbb⟩ : ∃ b, b = (s[j]).toNat := ⟨_, rfl⟩
          have hb256 : b < 256 := by rw [hbb]; exact UInt8.toNat_lt _
          have hbyt : byt s j = b := by rw [hbb, byt, getD_at s j hjs]
          have c5 := set4_cell r6 (b / 64) (by omega)
          have HQ := hide (show (bits BinOp.and IntKind.u64 (((wd p (b / 64) : Nat) : Int) / 2 ^ (b % 64)) 1 == 1) = true by rw [has_bit _ _ (wd_lt _ _), bit_word, ← hbyt, hbit])
          have hs0 : ∀ W, (Instr.index 9 (.string s) (.int .i64 (j : Int))).run Tryd.prog W = .ok (.int .u8 (b : Int)) W := fun W => by
            rw [hbb]; exact run_index_str s j hjs W
          clear hLw h1 h2 h3 h4 hj hsz hlx hg2 t1 hb hbit r5 hbyt hbb
          go_wp2_with fail
          go_quiet (fail)
          have hq0 : (bits BinOp.and IntKind.u64 (((wd p (b / 64) : Nat) : Int) / 2 ^ (b % 64)) 1 == 0) = false := by
            rw [beq_eq_false_iff_ne, eq_of_beq (unhide HQ)]; decide
          go_wp2_with fail
          exact ⟨⟨k + 1, hlt, by simp, below_drewN ((unhide HBB).alloc hbs _) _⟩, unhide HMS⟩
        · have hje : lx.to = j := by omega
          have c1 : ((lx.to : Int) == (j : Int)) = true := by rw [hje]; simp
          have c2 : ((j : Int) < (lx.to : Int)) = False := eq_false (by omega)
          obtain rfl : nl = true := h3 hje
          clear hLw h1 h2 h3 h4 hj hsz hlx hg2 t1 hb hje
          go_wp2_with fail
          go_quiet (fail)
          go_wp2_with fail
          exact ⟨⟨k + 1, hlt, by simp, below_drewN ((unhide HBB).alloc hbs _) _⟩, unhide HMS⟩
      · have hge' : ¬ (k : Int) < (L.length : Int) := by omega
        go_wp2_with fail
        go_ret
        exact ⟨rfl, bnext (unhide HB4) hb⟩
  · have hne : (er == 0) = false := by rw [beq_eq_false_iff_ne]; exact her
    have hne' : (er != 0) = true := by rw [bne_iff_ne]; exact her
    clear hLr HFS HLL
    go_wp2_with fail
    go_ret
    exact ⟨rfl, unhide HB4⟩
end Go.Proofs.YtjfahpklemohgaaDoor
