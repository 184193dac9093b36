/- What the document's Signs answers. -/
import Derived.Test.YtimbfelbalfmiaaDoorRsA
namespace Go.Proofs.YtimbfelbalfmiaaDoor
open Go.RowKit

abbrev SRow (w : World) (B : Nat) (v : Value) (l : List Sg) : Prop := Row w B 42 4 sgV v l
/-- What the loop keeps. -/
structure Sgn (w : World) (s : ByteArray) (wr : World) (v : Value) (i f : Nat) (l : List Sg) : Prop where
  row : SRow wr w.heap.size v l
  bel : Below w.heap.size w wr
  eq : sgs s 0 = sgF s f i l
theorem Sgn.put {w wr w' : World} {s : ByteArray} {v v' : Value} {i j f : Nat} {l : List Sg} {x : Sg} (h : Sgn w s wr v i (f + 1) l) {W : World} (hb : Below wr.heap.size wr W) (hrow : SRow w' w.heap.size v' (l ++ [x])) (hg : W.grownBy w' v.ownBlock) (he : sgF s (f + 1) i l = sgF s f j (l ++ [x])) : Sgn w s w' v' j f (l ++ [x]) :=
  ⟨hrow, below_grownR (bnext h.bel hb) (h.row.later hb) (Nat.le_refl _) hg, h.eq.trans he⟩
theorem Sgn.fin {w wr w' : World} {s : ByteArray} {v v' : Value} {i f : Nat} {l : List Sg} {x : Sg} (h : Sgn w s wr v i (f + 1) l) {W : World} (hb : Below wr.heap.size wr W) (hrow : SRow w' w.heap.size v' (l ++ [x])) (hg : W.grownBy w' v.ownBlock) (he : sgF s (f + 1) i l = l ++ [x]) : SRow w' w.heap.size v' (sgs s 0) ∧ Below w.heap.size w w' := by
  rw [h.eq, he]
  exact ⟨hrow, below_grownR (bnext h.bel hb) (h.row.later hb) (Nat.le_refl _) hg⟩
def SgnPost (w : World) (s : ByteArray) (e : Ending) (w' : World) : Prop := ∃ (v : Value) (n : Int), e = .returned (.tuple #[v, .int .i64 n]) ∧ SRow w' w.heap.size v (sgs s 0) ∧ Below w.heap.size w w'
theorem wpl_byteS {w : World} {ops : Array Oper} {rest : List Oper} {o : Oper} {a : Act} {Q : Exit → Act → World → Prop} (hgd : o.guard = none) (sl x : Operand)
    (ho : o.op = .call { callee := .builtin .append, args := #[sl, x], argTypes := #[51, 51] })
    (B : Nat) (v : Value) (l : List UInt8) (b : UInt8) (g : Nat) (hs : a.eval sl = v) (hx : a.eval x = .slice (some ⟨g, 0, none⟩) 1 1) (h : Bytes w B v l) (hc : w.cell? ⟨g, 0, none⟩ = some (bc b)) (hB : B ≤ w.heap.size) (hl : l.length + 1 ≤ 100000000)
    (hK : ∀ v' w', Bytes w' B v' (l ++ [b]) → Below B w w' → Kept w w' → wpList Tryd.prog ops Q rest (a.put o.dst v') w') : wpList Tryd.prog ops Q (o :: rest) a w := by
  refine wpList_plain hgd fun K hK' => ?_
  obtain ⟨v', w', hr, h1, h2, h3⟩ := run_byte h hB b ⟨g, 0, none⟩ 1 (by rw [Addr.add_lit]; exact hc) hl o.type
  unfold Oper.wp execOp
  simp only [ho, resolve, invoke, builtin, Sem.run_bind, Sem.run_pure, Result.andThen_ok, List.map_toArray, List.map_cons, List.map_nil, hs, hx, hr]
  exact hK' _ _ (hK v' w' h1 h2 h3)

theorem new_byte0 (w : World) (b : UInt8) : (w.alloc (.cells #[.int .u8 (b.toNat : Int)] 5)).cell? ⟨w.heap.size, 0, none⟩ = some (bc b) := new_byte w b
theorem but_belB {wo W w' : World} (h : Below wo.heap.size wo W) (hb : Below wo.heap.size W w') : Below wo.heap.size wo w' := h.trans hb
set_option maxRecDepth 100000 in
set_option maxHeartbeats 8000000 in
theorem signs_any (s : ByteArray) (hs : s.size ≤ 65536) (w : World) : Calls Tryd.prog 9 #[.string s] w fun e w' => SgnPost w s e w' := by
  go_enter Tryd.func9, Tryd.ntmps9
  go_wp2_with fail
  go_loopw [4, 5] (fun v x wr => ∃ (i f : Nat) (l : List Sg), i ≤ s.size ∧ x = .int .i64 (i : Int) ∧ s.size < i + f ∧ l.length ≤ i ∧ Hid (Sgn w s wr v i f l)) (fun _ x _ => s.size - (intOf x).toNat)
  case atStart => exact ⟨0, s.size + 1, [], Nat.zero_le _, rfl, by omega, Nat.le_refl _, World.ownsRow_nil _ _ _ _, Below.refl _ _, rfl⟩
  case round =>
    obtain ⟨i, f, l, hi, rfl, hf, hl, HK⟩ := hrel
    obtain ⟨f', rfl⟩ : ∃ f', f = f' + 1 := ⟨f - 1, by omega⟩
    have HST := hide (sgF_step s f' i l)
    have hsz := (unhide HK).bel.size
    rcases Nat.lt_or_ge i s.size with hlt | hge
    · have hg : (i : Int) < (s.size : Int) := by omega
      have HBA := hide (bat_at s i hlt)
      have hb255 := bat_lt s i
      by_cases h32 : bat s i = 32
      · have HE := hide (show sgF s (f' + 1) i l = sgF s f' (i + 1) l by rw [unhide HST, if_pos hlt, if_pos h32])
        have hb : (((s[i]'hlt).toNat : Int) == 32) = true := by rw [unhide HBA, h32]; rfl
        clear h32 HST
        go_wp2_with fail
        exact ⟨⟨i + 1, f', l, by omega, rfl, by omega, by omega, (unhide HK).row, (unhide HK).bel, (unhide HK).eq.trans (unhide HE)⟩, by simp [intOf]; omega⟩
      · have n32 : (((s[i]'hlt).toNat : Int) == 32) = false := by rw [unhide HBA, beq_eq_false_iff_ne]; omega
        by_cases h39 : bat s i = 39
        · have HCQ := hide (cq_le s (i + 1) (by omega))
          have HE1 := hide (fun (h : cq s (i + 1) < s.size) => (show sgF s (f' + 1) i l = sgF s f' (cq s (i + 1) + 1) (l ++ [⟨302, ⟨(ct s (i + 1)).toArray⟩, i, cq s (i + 1) + 1⟩]) by rw [unhide HST, if_pos hlt, if_neg h32, if_pos h39, if_pos h]))
          have HE0 := hide (fun (h : ¬ cq s (i + 1) < s.size) => (show sgF s (f' + 1) i l = l ++ [⟨301, ⟨#[]⟩, i, s.size⟩] by rw [unhide HST, if_pos hlt, if_neg h32, if_pos h39, if_neg h]))
          have e39 : (((s[i]'hlt).toNat : Int) == 39) = true := by rw [unhide HBA, h39]; rfl
          clear h32 h39 HST
          go_wp2_with fail
          obtain ⟨wo, hwo⟩ : ∃ wo, wo = wr := ⟨_, rfl⟩
          subst hwo
          go_loopw [5, 8] (fun x y wq => ∃ (k : Nat) (L : List UInt8), i + 1 ≤ k ∧ k ≤ s.size ∧ x = .int .i64 (k : Int) ∧ L.length ≤ k ∧ Hid (Bytes wq wo.heap.size y L) ∧ Hid (Below wo.heap.size wo wq) ∧ Hid (cq s (i + 1) = cq s k ∧ ct s (i + 1) = L ++ ct s k)) (fun x _ _ => s.size - (intOf x).toNat)
          case atStart => exact ⟨i + 1, [], Nat.le_refl _, by omega, rfl, by simp, World.ownsRow_nil _ _ _ _, Below.refl _ _, rfl, rfl⟩
          case round =>
            obtain ⟨k, L, hik, hk, rfl, hLk, HY, HBQ, HC⟩ := hrel
            have hsq := (unhide HBQ).size
            have HR5 := hide (fun (o : Obj) => (unhide HK).row.later (bnext (unhide HBQ) ((Below.refl wr.heap.size wr).alloc (Nat.le_refl _) o)))
            rcases Nat.lt_or_ge k s.size with hkl | hkl
            · have n0 : ((k : Int) == (s.size : Int)) = false := by rw [beq_eq_false_iff_ne]; omega
              have HBK := hide (bat_at s k hkl)
              have HG := hide (get_at s k hkl)
              by_cases h39 : bat s k = 39
              · have b39 : (((s[k]'hkl).toNat : Int) == 39) = true := by rw [unhide HBK, h39]; rfl
                by_cases h40 : bat s (k + 1) = 39
                · have hk2 : k + 1 < s.size := bat_in (by omega)
                  have HBK2 := hide (bat_at s (k + 1) hk2)
                  have n1 : ((k : Int) + 1 == (s.size : Int)) = false := by rw [beq_eq_false_iff_ne]; omega
                  have b40 : (((s[k + 1]'hk2).toNat : Int) == 39) = true := by rw [unhide HBK2, h40]; rfl
                  have HC2 := hide (show cq s (i + 1) = cq s (k + 2) ∧ ct s (i + 1) = (L ++ [s[k + 1]'hk2]) ++ ct s (k + 2) by
                    have e39 : s[k + 1]'hk2 = 39 := by
                      have h := unhide HBK2
                      rw [h40] at h
                      exact UInt8.toNat_inj.1 h
                    rw [(unhide HC).1, (unhide HC).2, cq_two h39 h40, ct_two h39 h40, e39, List.append_assoc]
                    exact ⟨rfl, rfl⟩)
                  clear h39 h40 HR5
                  go_wp2_with (first
                  | (at_builtin; refine wpl_byteS rfl _ _ rfl wo.heap.size _ L (s[k + 1]'hk2) wr.heap.size rfl rfl ((unhide HY).later ((Below.refl _ _).alloc (Nat.le_refl _) _)) (new_byte0 wr (s[k + 1]'hk2)) (by rw [World.size_alloc]; omega) (by omega) ?_; intro v' w6 hby hbel hkept)
                  | fail)
                  exact ⟨⟨k + 2, L ++ [s[k + 1]'hk2], by omega, by omega, by simp; omega, by simp; omega, hby, but_belB (bnext (unhide HBQ) ((Below.refl _ _).alloc (Nat.le_refl _) _)) hbel, unhide HC2⟩, by simp [intOf]; omega⟩
                · have HC2 := hide (show cq s (i + 1) = k ∧ ct s (i + 1) = L by
                    rw [(unhide HC).1, (unhide HC).2, cq_here h39 h40, ct_here h39 h40, List.append_nil]
                    exact ⟨rfl, rfl⟩)
                  have HE2 := hide (show sgF s (f' + 1) i l = sgF s f' (k + 1) (l ++ [⟨302, ⟨L.toArray⟩, i, k + 1⟩]) by
                    have h := unhide HE1 (by rw [(unhide HC2).1]; exact hkl)
                    rw [(unhide HC2).1, (unhide HC2).2] at h
                    exact h)
                  have hout := out_strR (unhide HY)
                  by_cases hend : k + 1 = s.size
                  · have n1 : ((k : Int) + 1 == (s.size : Int)) = true := by rw [beq_iff_eq]; omega
                    clear h39 h40 HE1 HE0
                    go_wp2_with (first
                  | (at_builtin; refine wpList_row Tryd.underlying34 info_sign rfl (by decide) (by decide) sgV_len sgV_one rfl _ _ rfl (unhide HR5 _) (by rw [World.size_alloc]; omega) ⟨302, ⟨L.toArray⟩, i, k + 1⟩ wr.heap.size 1 rfl rfl new_sign (by omega) ?_; intro v' w6 hrow hgrow hown)
                  | fail)
                    exact ⟨⟨k + 1, f', l ++ [⟨302, ⟨L.toArray⟩, i, k + 1⟩], by omega, rfl, by omega, by simp; omega, (unhide HK).put (bnext (unhide HBQ) ((Below.refl _ _).alloc (Nat.le_refl _) _)) hrow hgrow (unhide HE2)⟩, by simp [intOf]; omega⟩
                  · have hk2 : k + 1 < s.size := by omega
                    have HBK2 := hide (bat_at s (k + 1) hk2)
                    have n1 : ((k : Int) + 1 == (s.size : Int)) = false := by rw [beq_eq_false_iff_ne]; omega
                    have b40 : (((s[k + 1]'hk2).toNat : Int) == 39) = false := by rw [unhide HBK2, beq_eq_false_iff_ne]; omega
                    clear h39 h40 HE1 HE0
                    go_wp2_with (first
                  | (at_builtin; refine wpList_row Tryd.underlying34 info_sign rfl (by decide) (by decide) sgV_len sgV_one rfl _ _ rfl (unhide HR5 _) (by rw [World.size_alloc]; omega) ⟨302, ⟨L.toArray⟩, i, k + 1⟩ wr.heap.size 1 rfl rfl new_sign (by omega) ?_; intro v' w6 hrow hgrow hown)
                  | fail)
                    exact ⟨⟨k + 1, f', l ++ [⟨302, ⟨L.toArray⟩, i, k + 1⟩], by omega, rfl, by omega, by simp; omega, (unhide HK).put (bnext (unhide HBQ) ((Below.refl _ _).alloc (Nat.le_refl _) _)) hrow hgrow (unhide HE2)⟩, by simp [intOf]; omega⟩
              · have b39 : (((s[k]'hkl).toNat : Int) == 39) = false := by rw [unhide HBK, beq_eq_false_iff_ne]; omega
                have HC2 := hide (show cq s (i + 1) = cq s (k + 1) ∧ ct s (i + 1) = (L ++ [s[k]'hkl]) ++ ct s (k + 1) by
                  rw [(unhide HC).1, (unhide HC).2, cq_plain hkl h39, ct_plain hkl h39, unhide HG, List.append_assoc]
                  exact ⟨rfl, rfl⟩)
                clear h39 HR5
                go_wp2_with (first
                  | (at_builtin; refine wpl_byteS rfl _ _ rfl wo.heap.size _ L (s[k]'hkl) wr.heap.size rfl rfl ((unhide HY).later ((Below.refl _ _).alloc (Nat.le_refl _) _)) (new_byte0 wr (s[k]'hkl)) (by rw [World.size_alloc]; omega) (by omega) ?_; intro v' w6 hby hbel hkept)
                  | fail)
                exact ⟨⟨k + 1, L ++ [s[k]'hkl], by omega, by omega, by simp, by simp; omega, hby, but_belB (bnext (unhide HBQ) ((Below.refl _ _).alloc (Nat.le_refl _) _)) hbel, unhide HC2⟩, by simp [intOf]; omega⟩
            · obtain rfl : k = s.size := by omega
              have n0 : ((s.size : Int) == (s.size : Int)) = true := by rw [beq_iff_eq]
              have HE2 := hide (unhide HE0 (by rw [(unhide HC).1, cq_end (Nat.le_refl _)]; omega))
              go_wp2_with (first
                  | (at_builtin; refine wpList_row Tryd.underlying34 info_sign rfl (by decide) (by decide) sgV_len sgV_one rfl _ _ rfl (unhide HR5 _) (by rw [World.size_alloc]; omega) ⟨301, ⟨#[]⟩, i, s.size⟩ wr.heap.size 1 rfl rfl new_sign (by omega) ?_; intro v' w6 hrow hgrow hown)
                  | fail)
              have HF := hide ((unhide HK).fin (bnext (unhide HBQ) ((Below.refl _ _).alloc (Nat.le_refl _) _)) hrow hgrow (unhide HE2))
              clear hrow hgrow hown
              go_wp2_with fail
              go_ret2
              exact ⟨_, _, rfl, (unhide HF).1, (unhide HF).2⟩
        · have n39 : (((s[i]'hlt).toNat : Int) == 39) = false := by rw [unhide HBA, beq_eq_false_iff_ne]; omega
          by_cases hle : letterN (bat s i) = true
          · have hE := wdE_adv hle
            have HE := hide (show sgF s (f' + 1) i l = sgF s f' (wdE s i) (l ++ [⟨303, s.extract i (wdE s i), i, wdE s i⟩]) by rw [unhide HST, if_pos hlt, if_neg h32, if_neg h39, if_pos hle])
            have hrg : 65 ≤ bat s i ∧ bat s i ≤ 90 := of_decide_eq_true hle
            have q1 : (65 : Int) ≤ ((s[i]'hlt).toNat : Int) := by rw [unhide HBA]; omega
            have q2 : ((s[i]'hlt).toNat : Int) ≤ 90 := by rw [unhide HBA]; omega
            clear h32 h39 hle HST hrg
            go_wp2_with fail
            go_loop [5] (fun x => ∃ k : Nat, i ≤ k ∧ k ≤ s.size ∧ x = .int .i64 (k : Int) ∧ Hid (wdE s i = wdE s k)) (fun x => s.size - (intOf x).toNat)
            case atStart => exact ⟨i, Nat.le_refl _, hi, rfl, rfl⟩
            case round =>
              obtain ⟨k, hik, hk, rfl, HW⟩ := hrel
              rcases Nat.lt_or_ge k s.size with hkl | hkl
              · have hkg : (k : Int) < (s.size : Int) := by omega
                have HBK := hide (bat_at s k hkl)
                have HS1 := hide (fun (q : wordN (bat s k) = true) => (show wdE s k = wdE s (k + 1) from pas_step hkl q))
                have HS0 := hide (fun (q : wordN (bat s k) = false) => (show wdE s k = k from pas_stop fun _ => q))
                rcases (show (65 ≤ bat s k ∧ bat s k ≤ 90) ∨ (48 ≤ bat s k ∧ bat s k ≤ 57) ∨ bat s k < 48 ∨ (57 < bat s k ∧ bat s k < 65) ∨ 90 < bat s k by omega) with ⟨r1, r2⟩ | ⟨r1, r2⟩ | r1 | ⟨r1, r2⟩ | r1
                · have z1 : (65 : Int) ≤ ((s[k]'hkl).toNat : Int) := by rw [unhide HBK]; omega
                  have z2 : ((s[k]'hkl).toNat : Int) ≤ 90 := by rw [unhide HBK]; omega
                  have HW2 := hide (unhide HS1 (by unfold wordN letterN; rw [decide_eq_true ⟨r1, r2⟩]; rfl))
                  clear r1 r2 HS1 HS0
                  go_wp2_with fail
                  exact ⟨⟨k + 1, by omega, by omega, rfl, by rw [unhide HW]; exact unhide HW2⟩, by simp [intOf]; omega⟩
                · have z1 : ¬ (65 : Int) ≤ ((s[k]'hkl).toNat : Int) := by rw [unhide HBK]; omega
                  have z2 : (48 : Int) ≤ ((s[k]'hkl).toNat : Int) := by rw [unhide HBK]; omega
                  have z3 : ((s[k]'hkl).toNat : Int) ≤ 57 := by rw [unhide HBK]; omega
                  have HW2 := hide (unhide HS1 (by unfold wordN digitN; rw [decide_eq_true (p := 48 ≤ bat s k ∧ bat s k ≤ 57) ⟨r1, r2⟩, Bool.or_true]))
                  clear r1 r2 HS1 HS0
                  go_wp2_with fail
                  exact ⟨⟨k + 1, by omega, by omega, rfl, by rw [unhide HW]; exact unhide HW2⟩, by simp [intOf]; omega⟩
                · have z1 : ¬ (65 : Int) ≤ ((s[k]'hkl).toNat : Int) := by rw [unhide HBK]; omega
                  have z2 : ¬ (48 : Int) ≤ ((s[k]'hkl).toNat : Int) := by rw [unhide HBK]; omega
                  have HWk := hide (show wdE s i = k by rw [unhide HW]; exact unhide HS0 (by unfold wordN letterN digitN; rw [decide_eq_false (p := 65 ≤ bat s k ∧ bat s k ≤ 90) (by omega), decide_eq_false (p := 48 ≤ bat s k ∧ bat s k ≤ 57) (by omega)]; rfl))
                  have HE2 := hide (show sgF s (f' + 1) i l = sgF s f' k (l ++ [⟨303, s.extract i k, i, k⟩]) by rw [unhide HE, unhide HWk])
                  have hik2 : i < k := by have h := hE.1; rw [unhide HWk] at h; exact h
                  have hle3 : (i : Int) ≤ (k : Int) := by omega
                  have HR5 := hide (fun (o : Obj) => (unhide HK).row.later ((Below.refl wr.heap.size wr).alloc (Nat.le_refl _) o))
                  clear r1 HS1 HS0 HE HW
                  go_wp2_with (first
                    | (at_builtin; refine wpList_row Tryd.underlying34 info_sign rfl (by decide) (by decide) sgV_len sgV_one rfl _ _ rfl (unhide HR5 _) (by rw [World.size_alloc]; omega) ⟨303, s.extract i k, i, k⟩ wr.heap.size 1 rfl rfl new_sign (by omega) ?_; intro v' w6 hrow hgrow hown)
                    | fail)
                  exact ⟨⟨k, f', l ++ [⟨303, s.extract i k, i, k⟩], hk, rfl, by omega, by simp; omega, (unhide HK).put ((Below.refl _ _).alloc (Nat.le_refl _) _) hrow hgrow (unhide HE2)⟩, by simp [intOf]; omega⟩
                · have z1 : ¬ (65 : Int) ≤ ((s[k]'hkl).toNat : Int) := by rw [unhide HBK]; omega
                  have z2 : (48 : Int) ≤ ((s[k]'hkl).toNat : Int) := by rw [unhide HBK]; omega
                  have z3 : ¬ ((s[k]'hkl).toNat : Int) ≤ 57 := by rw [unhide HBK]; omega
                  have HWk := hide (show wdE s i = k by rw [unhide HW]; exact unhide HS0 (by unfold wordN letterN digitN; rw [decide_eq_false (p := 65 ≤ bat s k ∧ bat s k ≤ 90) (by omega), decide_eq_false (p := 48 ≤ bat s k ∧ bat s k ≤ 57) (by omega)]; rfl))
                  have HE2 := hide (show sgF s (f' + 1) i l = sgF s f' k (l ++ [⟨303, s.extract i k, i, k⟩]) by rw [unhide HE, unhide HWk])
                  have hik2 : i < k := by have h := hE.1; rw [unhide HWk] at h; exact h
                  have hle3 : (i : Int) ≤ (k : Int) := by omega
                  have HR5 := hide (fun (o : Obj) => (unhide HK).row.later ((Below.refl wr.heap.size wr).alloc (Nat.le_refl _) o))
                  clear r1 r2 HS1 HS0 HE HW
                  go_wp2_with (first
                    | (at_builtin; refine wpList_row Tryd.underlying34 info_sign rfl (by decide) (by decide) sgV_len sgV_one rfl _ _ rfl (unhide HR5 _) (by rw [World.size_alloc]; omega) ⟨303, s.extract i k, i, k⟩ wr.heap.size 1 rfl rfl new_sign (by omega) ?_; intro v' w6 hrow hgrow hown)
                    | fail)
                  exact ⟨⟨k, f', l ++ [⟨303, s.extract i k, i, k⟩], hk, rfl, by omega, by simp; omega, (unhide HK).put ((Below.refl _ _).alloc (Nat.le_refl _) _) hrow hgrow (unhide HE2)⟩, by simp [intOf]; omega⟩
                · have z1 : (65 : Int) ≤ ((s[k]'hkl).toNat : Int) := by rw [unhide HBK]; omega
                  have z2 : ¬ ((s[k]'hkl).toNat : Int) ≤ 90 := by rw [unhide HBK]; omega
                  have z3 : (48 : Int) ≤ ((s[k]'hkl).toNat : Int) := by rw [unhide HBK]; omega
                  have z4 : ¬ ((s[k]'hkl).toNat : Int) ≤ 57 := by rw [unhide HBK]; omega
                  have HWk := hide (show wdE s i = k by rw [unhide HW]; exact unhide HS0 (by unfold wordN letterN digitN; rw [decide_eq_false (p := 65 ≤ bat s k ∧ bat s k ≤ 90) (by omega), decide_eq_false (p := 48 ≤ bat s k ∧ bat s k ≤ 57) (by omega)]; rfl))
                  have HE2 := hide (show sgF s (f' + 1) i l = sgF s f' k (l ++ [⟨303, s.extract i k, i, k⟩]) by rw [unhide HE, unhide HWk])
                  have hik2 : i < k := by have h := hE.1; rw [unhide HWk] at h; exact h
                  have hle3 : (i : Int) ≤ (k : Int) := by omega
                  have HR5 := hide (fun (o : Obj) => (unhide HK).row.later ((Below.refl wr.heap.size wr).alloc (Nat.le_refl _) o))
                  clear r1 HS1 HS0 HE HW
                  go_wp2_with (first
                    | (at_builtin; refine wpList_row Tryd.underlying34 info_sign rfl (by decide) (by decide) sgV_len sgV_one rfl _ _ rfl (unhide HR5 _) (by rw [World.size_alloc]; omega) ⟨303, s.extract i k, i, k⟩ wr.heap.size 1 rfl rfl new_sign (by omega) ?_; intro v' w6 hrow hgrow hown)
                    | fail)
                  exact ⟨⟨k, f', l ++ [⟨303, s.extract i k, i, k⟩], hk, rfl, by omega, by simp; omega, (unhide HK).put ((Below.refl _ _).alloc (Nat.le_refl _) _) hrow hgrow (unhide HE2)⟩, by simp [intOf]; omega⟩
              · have HWk := hide (show wdE s i = k by rw [unhide HW]; exact pas_stop fun h => absurd h (by omega))
                have HE2 := hide (show sgF s (f' + 1) i l = sgF s f' k (l ++ [⟨303, s.extract i k, i, k⟩]) by rw [unhide HE, unhide HWk])
                have hik2 : i < k := by have h := hE.1; rw [unhide HWk] at h; exact h
                have hle3 : (i : Int) ≤ (k : Int) := by omega
                have HR5 := hide (fun (o : Obj) => (unhide HK).row.later ((Below.refl wr.heap.size wr).alloc (Nat.le_refl _) o))
                have hkg : ¬ (k : Int) < (s.size : Int) := by omega
                clear HE HW
                go_wp2_with (first
                    | (at_builtin; refine wpList_row Tryd.underlying34 info_sign rfl (by decide) (by decide) sgV_len sgV_one rfl _ _ rfl (unhide HR5 _) (by rw [World.size_alloc]; omega) ⟨303, s.extract i k, i, k⟩ wr.heap.size 1 rfl rfl new_sign (by omega) ?_; intro v' w6 hrow hgrow hown)
                    | fail)
                exact ⟨⟨k, f', l ++ [⟨303, s.extract i k, i, k⟩], hk, rfl, by omega, by simp; omega, (unhide HK).put ((Below.refl _ _).alloc (Nat.le_refl _) _) hrow hgrow (unhide HE2)⟩, by simp [intOf]; omega⟩
          · by_cases hdi : digitN (bat s i) = true
            · have hE := dgE_adv hdi
              have HE := hide (show sgF s (f' + 1) i l = sgF s f' (dgE s i) (l ++ [⟨304, s.extract i (dgE s i), i, dgE s i⟩]) by rw [unhide HST, if_pos hlt, if_neg h32, if_neg h39, if_neg hle, if_pos hdi])
              have hrg : 48 ≤ bat s i ∧ bat s i ≤ 57 := of_decide_eq_true hdi
              have q0 : ¬ (65 : Int) ≤ ((s[i]'hlt).toNat : Int) := by rw [unhide HBA]; omega
              have q1 : (48 : Int) ≤ ((s[i]'hlt).toNat : Int) := by rw [unhide HBA]; omega
              have q2 : ((s[i]'hlt).toNat : Int) ≤ 57 := by rw [unhide HBA]; omega
              clear h32 h39 hle hdi HST hrg
              go_wp2_with fail
              go_loop [5] (fun x => ∃ k : Nat, i ≤ k ∧ k ≤ s.size ∧ x = .int .i64 (k : Int) ∧ Hid (dgE s i = dgE s k)) (fun x => s.size - (intOf x).toNat)
              case atStart => exact ⟨i, Nat.le_refl _, hi, rfl, rfl⟩
              case round =>
                obtain ⟨k, hik, hk, rfl, HW⟩ := hrel
                rcases Nat.lt_or_ge k s.size with hkl | hkl
                · have hkg : (k : Int) < (s.size : Int) := by omega
                  have HBK := hide (bat_at s k hkl)
                  have HS1 := hide (fun (q : digitN (bat s k) = true) => (show dgE s k = dgE s (k + 1) from pas_step hkl q))
                  have HS0 := hide (fun (q : digitN (bat s k) = false) => (show dgE s k = k from pas_stop fun _ => q))
                  rcases (show (48 ≤ bat s k ∧ bat s k ≤ 57) ∨ bat s k < 48 ∨ 57 < bat s k by omega) with ⟨r1, r2⟩ | r1 | r1
                  · have z1 : (48 : Int) ≤ ((s[k]'hkl).toNat : Int) := by rw [unhide HBK]; omega
                    have z2 : ((s[k]'hkl).toNat : Int) ≤ 57 := by rw [unhide HBK]; omega
                    have HW2 := hide (unhide HS1 (decide_eq_true ⟨r1, r2⟩))
                    clear r1 r2 HS1 HS0
                    go_wp2_with fail
                    exact ⟨⟨k + 1, by omega, by omega, rfl, by rw [unhide HW]; exact unhide HW2⟩, by simp [intOf]; omega⟩
                  · have z1 : ¬ (48 : Int) ≤ ((s[k]'hkl).toNat : Int) := by rw [unhide HBK]; omega
                    have HWk := hide (show dgE s i = k by rw [unhide HW]; exact unhide HS0 (decide_eq_false (by omega)))
                    have HE2 := hide (show sgF s (f' + 1) i l = sgF s f' k (l ++ [⟨304, s.extract i k, i, k⟩]) by rw [unhide HE, unhide HWk])
                    have hik2 : i < k := by have h := hE.1; rw [unhide HWk] at h; exact h
                    have hle3 : (i : Int) ≤ (k : Int) := by omega
                    have HR5 := hide (fun (o : Obj) => (unhide HK).row.later ((Below.refl wr.heap.size wr).alloc (Nat.le_refl _) o))
                    clear r1 HS1 HS0 HE HW
                    go_wp2_with (first
                      | (at_builtin; refine wpList_row Tryd.underlying34 info_sign rfl (by decide) (by decide) sgV_len sgV_one rfl _ _ rfl (unhide HR5 _) (by rw [World.size_alloc]; omega) ⟨304, s.extract i k, i, k⟩ wr.heap.size 1 rfl rfl new_sign (by omega) ?_; intro v' w6 hrow hgrow hown)
                      | fail)
                    exact ⟨⟨k, f', l ++ [⟨304, s.extract i k, i, k⟩], hk, rfl, by omega, by simp; omega, (unhide HK).put ((Below.refl _ _).alloc (Nat.le_refl _) _) hrow hgrow (unhide HE2)⟩, by simp [intOf]; omega⟩
                  · have z1 : (48 : Int) ≤ ((s[k]'hkl).toNat : Int) := by rw [unhide HBK]; omega
                    have z2 : ¬ ((s[k]'hkl).toNat : Int) ≤ 57 := by rw [unhide HBK]; omega
                    have HWk := hide (show dgE s i = k by rw [unhide HW]; exact unhide HS0 (decide_eq_false (by omega)))
                    have HE2 := hide (show sgF s (f' + 1) i l = sgF s f' k (l ++ [⟨304, s.extract i k, i, k⟩]) by rw [unhide HE, unhide HWk])
                    have hik2 : i < k := by have h := hE.1; rw [unhide HWk] at h; exact h
                    have hle3 : (i : Int) ≤ (k : Int) := by omega
                    have HR5 := hide (fun (o : Obj) => (unhide HK).row.later ((Below.refl wr.heap.size wr).alloc (Nat.le_refl _) o))
                    clear r1 HS1 HS0 HE HW
                    go_wp2_with (first
                      | (at_builtin; refine wpList_row Tryd.underlying34 info_sign rfl (by decide) (by decide) sgV_len sgV_one rfl _ _ rfl (unhide HR5 _) (by rw [World.size_alloc]; omega) ⟨304, s.extract i k, i, k⟩ wr.heap.size 1 rfl rfl new_sign (by omega) ?_; intro v' w6 hrow hgrow hown)
                      | fail)
                    exact ⟨⟨k, f', l ++ [⟨304, s.extract i k, i, k⟩], hk, rfl, by omega, by simp; omega, (unhide HK).put ((Below.refl _ _).alloc (Nat.le_refl _) _) hrow hgrow (unhide HE2)⟩, by simp [intOf]; omega⟩
                · have HWk := hide (show dgE s i = k by rw [unhide HW]; exact pas_stop fun h => absurd h (by omega))
                  have HE2 := hide (show sgF s (f' + 1) i l = sgF s f' k (l ++ [⟨304, s.extract i k, i, k⟩]) by rw [unhide HE, unhide HWk])
                  have hik2 : i < k := by have h := hE.1; rw [unhide HWk] at h; exact h
                  have hle3 : (i : Int) ≤ (k : Int) := by omega
                  have HR5 := hide (fun (o : Obj) => (unhide HK).row.later ((Below.refl wr.heap.size wr).alloc (Nat.le_refl _) o))
                  have hkg : ¬ (k : Int) < (s.size : Int) := by omega
                  clear HE HW
                  go_wp2_with (first
                      | (at_builtin; refine wpList_row Tryd.underlying34 info_sign rfl (by decide) (by decide) sgV_len sgV_one rfl _ _ rfl (unhide HR5 _) (by rw [World.size_alloc]; omega) ⟨304, s.extract i k, i, k⟩ wr.heap.size 1 rfl rfl new_sign (by omega) ?_; intro v' w6 hrow hgrow hown)
                      | fail)
                  exact ⟨⟨k, f', l ++ [⟨304, s.extract i k, i, k⟩], hk, rfl, by omega, by simp; omega, (unhide HK).put ((Below.refl _ _).alloc (Nat.le_refl _) _) hrow hgrow (unhide HE2)⟩, by simp [intOf]; omega⟩
            · have HE := hide (show sgF s (f' + 1) i l = sgF s f' (i + 1) (l ++ [⟨bat s i, s.extract i (i + 1), i, i + 1⟩]) by rw [unhide HST, if_pos hlt, if_neg h32, if_neg h39, if_neg hle, if_neg hdi])
              have HB := hide (unhide HBA)
              have hle2 : ¬ (65 ≤ bat s i ∧ bat s i ≤ 90) := fun q => hle (decide_eq_true q)
              have hdi2 : ¬ (48 ≤ bat s i ∧ bat s i ≤ 57) := fun q => hdi (decide_eq_true q)
              generalize bat s i = b at *
              have hb : (s[i]'hlt).toNat = b := unhide HB
              have hrow5 := fun (o : Obj) => (unhide HK).row.later ((Below.refl wr.heap.size wr).alloc (Nat.le_refl _) o)
              have HR5 := hide hrow5
              have hw64 : wrap64 (b : Int) = (b : Int) := IntWalk.wrap64_in _ (by omega)
              have hle3 : (i : Int) ≤ (i : Int) + 1 := by omega
              clear hrow5 hle hdi h32 h39 HST
              go_wp2_with (first
                | (at_builtin; refine wpList_row Tryd.underlying34 info_sign rfl (by decide) (by decide) sgV_len sgV_one rfl _ _ rfl (unhide HR5 _) (by rw [World.size_alloc]; omega) ⟨b, s.extract i (i + 1), i, i + 1⟩ wr.heap.size 1 rfl rfl new_sign (by omega) ?_; intro v' w6 hrow hgrow hown)
                | fail)
              all_goals exact ⟨⟨i + 1, f', l ++ [⟨b, s.extract i (i + 1), i, i + 1⟩], by omega, rfl, by omega, by simp; omega, (unhide HK).put ((Below.refl _ _).alloc (Nat.le_refl _) _) hrow hgrow (unhide HE)⟩, by simp [intOf]; omega⟩
    · obtain rfl : i = s.size := by omega
      have hg : ¬ (s.size : Int) < (s.size : Int) := by omega
      have HE := hide (show sgF s (f' + 1) s.size l = l ++ [⟨305, ⟨#[]⟩, s.size, s.size⟩] by rw [unhide HST, if_neg (by omega)])
      have HR5 := hide (fun (o : Obj) => (unhide HK).row.later ((Below.refl wr.heap.size wr).alloc (Nat.le_refl _) o))
      clear HST
      go_wp2_with (first
        | (at_builtin; refine wpList_row Tryd.underlying34 info_sign rfl (by decide) (by decide) sgV_len sgV_one rfl _ _ rfl (unhide HR5 _) (by rw [World.size_alloc]; omega) ⟨305, ⟨#[]⟩, s.size, s.size⟩ wr.heap.size 1 rfl rfl new_sign (by omega) ?_; intro v' w6 hrow hgrow hown)
        | fail)
      have HF := hide ((unhide HK).fin ((Below.refl _ _).alloc (Nat.le_refl _) _) hrow hgrow (unhide HE))
      clear hrow hgrow hown
      go_wp2_with fail
      go_ret2
      exact ⟨_, _, rfl, (unhide HF).1, (unhide HF).2⟩
end Go.Proofs.YtimbfelbalfmiaaDoor
