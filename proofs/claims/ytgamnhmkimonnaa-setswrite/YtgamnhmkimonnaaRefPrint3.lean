/- What the document's Print does, for every set. -/
import Derived.Test.YtgamnhmkimonnaaSpelt3
import Derived.Test.YtgamnhmkimonnaaPrint
import Derived.Test.YtgamnhmkimonnaaBytes3
import Derived.Laws.Concat
namespace Go.Proofs.Ytgamnhmkimonnaa
open Go.RowKit

/-- The document's way: each byte that begins a run tells it. -/
def prR (p : Nat → Bool) : Nat → Nat → List UInt8
  | 0, _ => []
  | f + 1, b => if b < 256 then (if p b && !(decide (0 < b) && p (b - 1)) then runT b (re p 256 b) else []) ++ prR p f (b + 1) else []
theorem prR_succ (p : Nat → Bool) (f b : Nat) : prR p (f + 1) b = if b < 256 then (if p b && !(decide (0 < b) && p (b - 1)) then runT b (re p 256 b) else []) ++ prR p f (b + 1) else [] := rfl
theorem prR_over (p : Nat → Bool) (b : Nat) (h : 256 ≤ b) : ∀ f, prR p f b = []
  | 0 => rfl
  | f + 1 => by rw [prR_succ, if_neg (by omega)]
theorem pr_over (p : Nat → Bool) (b : Nat) (h : 256 ≤ b) : ∀ f, pr p f b = []
  | 0 => rfl
  | f + 1 => by unfold pr; rw [if_neg (by omega)]
theorem pr_step (p : Nat → Bool) (f b : Nat) : pr p (f + 1) b = if b < 256 then if p b then runT b (re p 256 b) ++ pr p f (re p 256 b + 1) else pr p f (b + 1) else [] := rfl
theorem re_in (p : Nat → Bool) : ∀ f b x, b < x → x ≤ re p f b → p x = true
  | 0, b, x, h1, h2 => by exact absurd h2 (by unfold re; omega)
  | f + 1, b, x, h1, h2 => by
    rw [re_succ] at h2
    split at h2
    · rename_i hc
      simp at hc
      by_cases e : x = b + 1
      · rw [e]; exact hc.2
      · exact re_in p f (b + 1) x (by omega) h2
    · omega
theorem re_stop (p : Nat → Bool) : ∀ f b, 255 ≤ f + b → b < 256 → re p f b < 255 → p (re p f b + 1) = false
  | 0, b, h1, h2, h3 => by exact absurd h3 (by unfold re; omega)
  | f + 1, b, h1, h2, h3 => by
    rw [re_succ] at h3 ⊢
    split
    · rename_i hc
      rw [if_pos hc] at h3
      simp at hc
      exact re_stop p f (b + 1) (by omega) (by omega) h3
    · rename_i hc
      rw [if_neg hc] at h3
      cases hp : p (b + 1) with
      | false => rfl
      | true => exact absurd (by rw [hp]; simp; omega) hc
/-- Within a run nothing is told. -/
theorem prR_skip (p : Nat → Bool) : ∀ (d f b : Nat), (∀ x, b ≤ x → x < b + d → 0 < x ∧ p (x - 1) = true) → b + d ≤ 256 → 256 ≤ f + b → ∃ g, 256 ≤ g + (b + d) ∧ prR p f b = prR p g (b + d)
  | 0, f, b, _, _, hf => ⟨f, by omega, rfl⟩
  | d + 1, f, b, h, hb, hf => by
    obtain ⟨f, rfl⟩ : ∃ g, f = g + 1 := ⟨f - 1, by omega⟩
    obtain ⟨h1, h2⟩ := h b (Nat.le_refl _) (by omega)
    obtain ⟨g, hg, e⟩ := prR_skip p d f (b + 1) (fun x hx1 hx2 => h x (by omega) (by omega)) (by omega) (by omega)
    refine ⟨g, by omega, ?_⟩
    rw [prR_succ, if_pos (by omega), h2, decide_eq_true h1]
    simp only [Bool.and_self, Bool.not_true, Bool.and_false, Bool.false_eq_true, if_false, List.nil_append]
    rw [e, show b + 1 + d = b + (d + 1) by omega]
theorem pr_eq (p : Nat → Bool) : ∀ (f b g : Nat), 256 ≤ f + b → 256 ≤ g + b → (b = 0 ∨ p (b - 1) = false ∨ p b = false ∨ 256 ≤ b) → prR p g b = pr p f b
  | 0, b, g, h1, h2, _ => by rw [prR_over p b (by omega), pr_over p b (by omega)]
  | f + 1, b, g, h1, h2, h => by
    by_cases hb : b < 256
    · obtain ⟨g, rfl⟩ : ∃ k, g = k + 1 := ⟨g - 1, by omega⟩
      rw [prR_succ, if_pos hb, pr_step, if_pos hb]
      cases hp : p b with
      | false =>
        simp only [Bool.false_and, Bool.false_eq_true, if_false, List.nil_append]
        exact pr_eq p f (b + 1) g (by omega) (by omega) (.inr (.inl (by rw [Nat.add_sub_cancel]; exact hp)))
      | true =>
        have hno : (decide (0 < b) && p (b - 1)) = false := by
          rcases h with h | h | h | h
          · subst h; rfl
          · rw [h, Bool.and_false]
          · rw [hp] at h; cases h
          · omega
        rw [hno]
        simp only [Bool.not_false, Bool.and_self, if_true]
        congr 1
        have hge := re_ge p 256 b
        have hlt := re_lt p 256 b hb
        have hin := re_in p 256 b
        have hst := re_stop p 256 b (by omega) hb
        generalize re p 256 b = z at *
        obtain ⟨k, hk, e⟩ := prR_skip p (z - b) g (b + 1) (fun x hx1 hx2 => ⟨by omega, by
          by_cases hxb : x = b + 1
          · rw [hxb, Nat.add_sub_cancel]; exact hp
          · exact hin (x - 1) (by omega) (by omega)⟩) (by omega) (by omega)
        rw [e, show b + 1 + (z - b) = z + 1 by omega]
        rw [show b + 1 + (z - b) = z + 1 by omega] at hk
        refine pr_eq p f (z + 1) k (by omega) hk ?_
        by_cases hz : z < 255
        · exact .inr (.inr (.inl (hst hz)))
        · exact .inr (.inr (.inr (by omega)))
    · rw [prR_over p b (by omega), pr_over p b (by omega)]
/-- How a text grows by a run. -/
theorem str_add (a b : List UInt8) : (⟨a.toArray⟩ : ByteArray) ++ ⟨b.toArray⟩ = ⟨(a ++ b).toArray⟩ := by
  apply ByteArray.ext
  rw [ByteArray.data_append]
  simp
theorem str_size (l : List UInt8) : (⟨l.toArray⟩ : ByteArray).size = l.length := by show l.toArray.size = _; simp
theorem run_add (W : World) (a b : List UInt8) (h : a.length + b.length ≤ 1000000) : (Op.stringOp .add ⟨a.toArray⟩ ⟨b.toArray⟩).run Try.prog W = .ok (.string ⟨(a ++ b).toArray⟩) W := by
  rw [← str_add]
  exact run_string_add_sum (P := Try.prog) W ⟨a.toArray⟩ ⟨b.toArray⟩ (by rw [str_size, str_size]; omega)

set_option maxHeartbeats 2000000 in
theorem refPrint_any (p : Nat → Bool) (w : World) :
    Calls Try.prog 24 #[sv p] w fun e w' => e = .returned (.string ⟨(pr p 256 0).toArray⟩) ∧ Below w.heap.size w w' := by
  have C1 := hide (fun W => bytes_any p W)
  unfold sv at C1 ⊢
  have hcs := sc_size p
  have hi4 := size_set
  rw [← hcs] at hi4
  generalize sc p = C at *
  have HI := hide hi4
  have hz : ∀ w, (zeroValue 25).run Try.prog w = .ok (.agg zerosB) w := (zero_of_info info_bools).1
  have H0 := hide (bl_at p)
  have hls := bl_size p
  have hl1 := bl_one p
  have hzs : zerosB.size = (bl p).size := by rw [hls]; simp [zerosB]
  have hi5 := size_bools
  rw [← hls] at hi5
  have HI5 := hide hi5
  generalize bl p = LB at *
  clear hi4 hi5
  obtain ⟨R, hR⟩ : ∃ R, R = pr p 256 0 := ⟨_, rfl⟩
  have hlen : R.length ≤ 1792 := by rw [hR]; exact pr_len p 256 0
  rw [← hR]
  have HR := hide (show prR p 256 0 = R by rw [hR]; exact pr_eq p 256 0 256 (by omega) (by omega) (.inl rfl))
  clear hR
  go_enter Try.func24, Try.ntmps24
  go_wp2_with (first
    | (refine wpList_load_row rfl 24 _ rfl w.heap.size rfl 24 C (0, 0) _ (at_new rfl) Try.underlying24 rfl (unhide HI) ?_)
    | (go_at_call 7; refine (unhide C1 _).mono ?_; rintro e w1 ⟨rfl, hb1⟩)
    | (refine wpList_store_row rfl 25 _ _ rfl w1.heap.size LB rfl rfl 25 zerosB (at_new rfl) (unhide HI5) hzs hl1 ?_; rw [World.setRow_alloc_new]))
  have hl := at_new (w := w1) (o := .cells LB 25) rfl
  have hbw := (bnext ((Below.refl w.heap.size w).alloc (Nat.le_refl _) _) hb1).alloc (by have := hb1.size; simp only [World.size_alloc] at this; omega) (.cells LB 25)
  clear hb1 hz
  generalize w1.alloc (.cells LB 25) = W1 at *
  generalize w1.heap.size = B at *
  go_loopw [4, 5] (fun v i wr => ∃ (b f : Nat) (l : List UInt8), b ≤ 256 ∧ i = .int .i64 b ∧ v = .string ⟨l.toArray⟩ ∧ wr.heap[B]? = some (.cells LB 25 (0, 0)) ∧ Below w.heap.size w wr ∧ Hid (l ++ prR p f b = R) ∧ 256 ≤ f + b) (fun _ i _ => 256 - (intOf i).toNat)
  case atStart => exact ⟨0, 256, [], by omega, rfl, rfl, hl, hbw, by show [] ++ _ = _; rw [← unhide HR]; rfl, by omega⟩
  case round =>
    obtain ⟨b, f, l, hb, rfl, rfl, hg, hbl, HF, hf⟩ := hrel
    clear hl hbw
    have hll : l.length ≤ 1792 := by
      have := congrArg List.length (unhide HF)
      rw [List.length_append] at this
      omega
    by_cases hlt : b < 256
    · have h1 : (b : Int) < 256 := by omega
      obtain ⟨f, rfl⟩ : ∃ g, f = g + 1 := ⟨f - 1, by omega⟩
      have hF := unhide HF
      rw [prR_succ, if_pos hlt] at hF
      have c0 : wr.cell? ⟨B, b, none⟩ = some (.bool (p b)) := by rw [cell_of_row _ _ b _ _ _ hg, unhide H0 b hlt]
      cases hp : p b with
      | false =>
        rw [hp] at c0 hF
        simp only [Bool.false_and, Bool.false_eq_true, if_false, List.nil_append] at hF
        have HF2 := hide hF
        clear hF HF
        go_wp2
        go_roundw
        case rel => exact ⟨b + 1, f, l, by omega, by go_num, rfl, hg, hbl, HF2, by omega⟩
        case measure => simp [intOf]; omega
      | true =>
        rw [hp] at c0 hF
        by_cases hprev : 0 < b ∧ p (b - 1) = true
        · have c1 : wr.cell? ⟨B, b - 1, none⟩ = some (.bool true) := by rw [cell_of_row _ _ (b - 1) _ _ _ hg, unhide H0 (b - 1) (by omega), hprev.2]
          have h2 : (0 : Int) < (b : Int) := by omega
          rw [hprev.2, decide_eq_true hprev.1] at hF
          simp only [Bool.and_self, Bool.not_true, Bool.and_false, Bool.false_eq_true, if_false, List.nil_append] at hF
          have HF2 := hide hF
          clear hF HF
          go_wp2
          go_roundw
          case rel => exact ⟨b + 1, f, l, by omega, by go_num, rfl, hg, hbl, HF2, by omega⟩
          case measure => simp [intOf]; omega
        · have hno : (decide (0 < b) && p (b - 1)) = false := by
            by_cases h : 0 < b
            · cases hq : p (b - 1) with
              | true => exact absurd ⟨h, hq⟩ hprev
              | false => rw [Bool.and_false]
            · rw [decide_eq_false h, Bool.false_and]
          rw [hno] at hF
          simp only [Bool.not_false, Bool.and_self, if_true] at hF
          have HF2 := hide hF
          clear hF HF
          obtain ⟨z, hzz⟩ : ∃ z, z = re p 256 b := ⟨_, rfl⟩
          rw [← hzz] at HF2
          have HZZ := hide hzz.symm
          clear hzz
          by_cases hb0 : 0 < b
          · have h2 : (0 : Int) < (b : Int) := by omega
            have hpf : p (b - 1) = false := by rw [decide_eq_true hb0, Bool.true_and] at hno; exact hno
            have c1 : wr.cell? ⟨B, b - 1, none⟩ = some (.bool false) := by rw [cell_of_row _ _ (b - 1) _ _ _ hg, unhide H0 (b - 1) (by omega), hpf]
            go_wp2
            go_loop [6] (fun v => ∃ n g : Nat, 1 ≤ n ∧ b + n ≤ 256 ∧ v = .int .i64 n ∧ Hid (re p g (b + n - 1) = z) ∧ 256 ≤ g + (b + n - 1)) (fun v => 256 - (intOf v).toNat)
            case atStart => exact ⟨1, 256, Nat.le_refl _, by omega, rfl, HZZ, by omega⟩
            case round =>
              obtain ⟨n, g, hn1, hn2, rfl, HRE, hge⟩ := hrel
              have hre := unhide HRE
              clear HRE
              obtain ⟨g, rfl⟩ : ∃ k, g = k + 1 := ⟨g - 1, by omega⟩
              rw [re_succ] at hre
              by_cases hc : b + n < 256
              · have h5 : (b : Int) + (n : Int) < 256 := by omega
                have c2 : wr.cell? ⟨B, b + n, none⟩ = some (.bool (p (b + n))) := by rw [cell_of_row _ _ (b + n) _ _ _ hg, unhide H0 (b + n) hc]
                rw [show b + n - 1 + 1 = b + n by omega, decide_eq_true (show b + n - 1 < 255 by omega), Bool.true_and] at hre
                cases hq : p (b + n) with
                | true =>
                  rw [hq] at c2 hre
                  rw [if_pos rfl] at hre
                  have HRE := hide (show re p g (b + (n + 1) - 1) = z by rw [← hre]; rfl)
                  clear hre
                  go_wp2
                  go_round
                  case rel => exact ⟨n + 1, g, by omega, by omega, by go_num, HRE, by omega⟩
                  case measure => simp [intOf]; omega
                | false =>
                  rw [hq] at c2 hre
                  rw [if_neg (by decide)] at hre
                  have hs1 := sp_len b
                  have hs2 := sp_len (b + n - 1)
                  have A1 := fun W => run_add W l (sp b) (by omega)
                  by_cases n1 : n = 1
                  · have q1 : ((n : Int) == 1) = true := by rw [beq_iff_eq]; omega
                    have er : runT b b = sp b := by unfold runT; rw [if_neg (by omega), if_neg (by omega)]; simp
                    have HF3 := hide (show (l ++ sp b) ++ prR p f (b + 1) = R by rw [← unhide HF2, show z = b by omega, er, List.append_assoc])
                    clear HF2 hre n1
                    go_wp2_with fail
                    refine (spelt_any b hlt _).mono ?_
                    rintro e w2 ⟨rfl, hb2⟩
                    go_wp2
                    go_roundw
                    case rel => exact ⟨b + 1, f, l ++ sp b, by omega, by go_num, by first | rfl | simp, row_below hg hb2, bnext hbl hb2, HF3, by omega⟩
                    case measure => simp [intOf]; omega
                  · have q1 : ((n : Int) == 1) = false := by rw [beq_eq_false_iff_ne]; omega
                    by_cases n2 : n = 2
                    · have q2 : ((n : Int) == 2) = true := by rw [beq_iff_eq]; omega
                      have er : runT b (b + 1) = sp b ++ sp (b + 1) := by unfold runT; rw [if_neg (by omega), if_pos (by omega)]; simp
                      have HF3 := hide (show (l ++ sp b ++ sp (b + 1)) ++ prR p f (b + 1) = R by rw [← unhide HF2, show z = b + 1 by omega, er]; simp)
                      have hs3 := sp_len (b + 1)
                      have A2 := fun W => run_add W (l ++ sp b) (sp (b + 1)) (by rw [List.length_append]; omega)
                      have K := hide (fun W => spelt_any (b + 1) (by omega) W)
                      rw [show (((b + 1 : Nat)) : Int) = (b : Int) + 1 by omega] at K
                      clear HF2 hre n1 n2
                      go_wp2_with fail
                      refine (spelt_any b hlt _).mono ?_
                      rintro e w2 ⟨rfl, hb2⟩
                      go_wp2_with fail
                      refine (unhide K _).mono ?_
                      rintro e w3 ⟨rfl, hb3⟩
                      go_wp2
                      go_roundw
                      case rel => exact ⟨b + 1, f, l ++ sp b ++ sp (b + 1), by omega, by go_num, by first | rfl | simp, row_below (row_below hg hb2) hb3, bnext (bnext hbl hb2) hb3, HF3, by omega⟩
                      case measure => simp [intOf]; omega
                    · have q2 : ((n : Int) == 2) = false := by rw [beq_eq_false_iff_ne]; omega
                      have er : runT b (b + n - 1) = sp b ++ ([45] ++ sp (b + n - 1)) := by unfold runT; rw [if_pos (by omega), if_pos (by omega)]
                      have HF3 := hide (show (l ++ sp b ++ [45] ++ sp (b + n - 1)) ++ prR p f (b + 1) = R by rw [← unhide HF2, ← hre, er]; simp)
                      have A2 := fun W => run_add W (l ++ sp b) [45] (by rw [List.length_append]; simp; omega)
                      have A3 := fun W => run_add W (l ++ (sp b ++ [45])) (sp (b + n - 1)) (by rw [List.length_append, List.length_append]; simp; omega)
                      have K := hide (fun W => spelt_any (b + n - 1) (by omega) W)
                      rw [show ((((b + n - 1) : Nat)) : Int) = (b : Int) + (n : Int) - 1 by omega] at K
                      clear HF2 hre
                      go_wp2_with fail
                      refine (spelt_any b hlt _).mono ?_
                      rintro e w2 ⟨rfl, hb2⟩
                      go_wp2_with fail
                      refine (unhide K _).mono ?_
                      rintro e w3 ⟨rfl, hb3⟩
                      go_wp2
                      go_roundw
                      case rel => exact ⟨b + 1, f, l ++ sp b ++ [45] ++ sp (b + n - 1), by omega, by go_num, by first | rfl | simp, row_below (row_below hg hb2) hb3, bnext (bnext hbl hb2) hb3, HF3, by omega⟩
                      case measure => simp [intOf]; omega
              · have h5 : ¬ (b : Int) + (n : Int) < 256 := by omega
                rw [decide_eq_false (show ¬ b + n - 1 < 255 by omega), Bool.false_and, if_neg (by decide)] at hre
                have hs1 := sp_len b
                have hs2 := sp_len (b + n - 1)
                have A1 := fun W => run_add W l (sp b) (by omega)
                by_cases n1 : n = 1
                · have q1 : ((n : Int) == 1) = true := by rw [beq_iff_eq]; omega
                  have er : runT b b = sp b := by unfold runT; rw [if_neg (by omega), if_neg (by omega)]; simp
                  have HF3 := hide (show (l ++ sp b) ++ prR p f (b + 1) = R by rw [← unhide HF2, show z = b by omega, er, List.append_assoc])
                  clear HF2 hre n1
                  go_wp2_with fail
                  refine (spelt_any b hlt _).mono ?_
                  rintro e w2 ⟨rfl, hb2⟩
                  go_wp2
                  go_roundw
                  case rel => exact ⟨b + 1, f, l ++ sp b, by omega, by go_num, by first | rfl | simp, row_below hg hb2, bnext hbl hb2, HF3, by omega⟩
                  case measure => simp [intOf]; omega
                · have q1 : ((n : Int) == 1) = false := by rw [beq_eq_false_iff_ne]; omega
                  by_cases n2 : n = 2
                  · have q2 : ((n : Int) == 2) = true := by rw [beq_iff_eq]; omega
                    have er : runT b (b + 1) = sp b ++ sp (b + 1) := by unfold runT; rw [if_neg (by omega), if_pos (by omega)]; simp
                    have HF3 := hide (show (l ++ sp b ++ sp (b + 1)) ++ prR p f (b + 1) = R by rw [← unhide HF2, show z = b + 1 by omega, er]; simp)
                    have hs3 := sp_len (b + 1)
                    have A2 := fun W => run_add W (l ++ sp b) (sp (b + 1)) (by rw [List.length_append]; omega)
                    have K := hide (fun W => spelt_any (b + 1) (by omega) W)
                    rw [show (((b + 1 : Nat)) : Int) = (b : Int) + 1 by omega] at K
                    clear HF2 hre n1 n2
                    go_wp2_with fail
                    refine (spelt_any b hlt _).mono ?_
                    rintro e w2 ⟨rfl, hb2⟩
                    go_wp2_with fail
                    refine (unhide K _).mono ?_
                    rintro e w3 ⟨rfl, hb3⟩
                    go_wp2
                    go_roundw
                    case rel => exact ⟨b + 1, f, l ++ sp b ++ sp (b + 1), by omega, by go_num, by first | rfl | simp, row_below (row_below hg hb2) hb3, bnext (bnext hbl hb2) hb3, HF3, by omega⟩
                    case measure => simp [intOf]; omega
                  · have q2 : ((n : Int) == 2) = false := by rw [beq_eq_false_iff_ne]; omega
                    have er : runT b (b + n - 1) = sp b ++ ([45] ++ sp (b + n - 1)) := by unfold runT; rw [if_pos (by omega), if_pos (by omega)]
                    have HF3 := hide (show (l ++ sp b ++ [45] ++ sp (b + n - 1)) ++ prR p f (b + 1) = R by rw [← unhide HF2, ← hre, er]; simp)
                    have A2 := fun W => run_add W (l ++ sp b) [45] (by rw [List.length_append]; simp; omega)
                    have A3 := fun W => run_add W (l ++ (sp b ++ [45])) (sp (b + n - 1)) (by rw [List.length_append, List.length_append]; simp; omega)
                    have K := hide (fun W => spelt_any (b + n - 1) (by omega) W)
                    rw [show ((((b + n - 1) : Nat)) : Int) = (b : Int) + (n : Int) - 1 by omega] at K
                    clear HF2 hre
                    go_wp2_with fail
                    refine (spelt_any b hlt _).mono ?_
                    rintro e w2 ⟨rfl, hb2⟩
                    go_wp2_with fail
                    refine (unhide K _).mono ?_
                    rintro e w3 ⟨rfl, hb3⟩
                    go_wp2
                    go_roundw
                    case rel => exact ⟨b + 1, f, l ++ sp b ++ [45] ++ sp (b + n - 1), by omega, by go_num, by first | rfl | simp, row_below (row_below hg hb2) hb3, bnext (bnext hbl hb2) hb3, HF3, by omega⟩
                    case measure => simp [intOf]; omega
          · have h2 : ¬ (0 : Int) < (b : Int) := by omega
            go_wp2
            go_loop [6] (fun v => ∃ n g : Nat, 1 ≤ n ∧ b + n ≤ 256 ∧ v = .int .i64 n ∧ Hid (re p g (b + n - 1) = z) ∧ 256 ≤ g + (b + n - 1)) (fun v => 256 - (intOf v).toNat)
            case atStart => exact ⟨1, 256, Nat.le_refl _, by omega, rfl, HZZ, by omega⟩
            case round =>
              obtain ⟨n, g, hn1, hn2, rfl, HRE, hge⟩ := hrel
              have hre := unhide HRE
              clear HRE
              obtain ⟨g, rfl⟩ : ∃ k, g = k + 1 := ⟨g - 1, by omega⟩
              rw [re_succ] at hre
              by_cases hc : b + n < 256
              · have h5 : (b : Int) + (n : Int) < 256 := by omega
                have c2 : wr.cell? ⟨B, b + n, none⟩ = some (.bool (p (b + n))) := by rw [cell_of_row _ _ (b + n) _ _ _ hg, unhide H0 (b + n) hc]
                rw [show b + n - 1 + 1 = b + n by omega, decide_eq_true (show b + n - 1 < 255 by omega), Bool.true_and] at hre
                cases hq : p (b + n) with
                | true =>
                  rw [hq] at c2 hre
                  rw [if_pos rfl] at hre
                  have HRE := hide (show re p g (b + (n + 1) - 1) = z by rw [← hre]; rfl)
                  clear hre
                  go_wp2
                  go_round
                  case rel => exact ⟨n + 1, g, by omega, by omega, by go_num, HRE, by omega⟩
                  case measure => simp [intOf]; omega
                | false =>
                  rw [hq] at c2 hre
                  rw [if_neg (by decide)] at hre
                  have hs1 := sp_len b
                  have hs2 := sp_len (b + n - 1)
                  have A1 := fun W => run_add W l (sp b) (by omega)
                  by_cases n1 : n = 1
                  · have q1 : ((n : Int) == 1) = true := by rw [beq_iff_eq]; omega
                    have er : runT b b = sp b := by unfold runT; rw [if_neg (by omega), if_neg (by omega)]; simp
                    have HF3 := hide (show (l ++ sp b) ++ prR p f (b + 1) = R by rw [← unhide HF2, show z = b by omega, er, List.append_assoc])
                    clear HF2 hre n1
                    go_wp2_with fail
                    refine (spelt_any b hlt _).mono ?_
                    rintro e w2 ⟨rfl, hb2⟩
                    go_wp2
                    go_roundw
                    case rel => exact ⟨b + 1, f, l ++ sp b, by omega, by go_num, by first | rfl | simp, row_below hg hb2, bnext hbl hb2, HF3, by omega⟩
                    case measure => simp [intOf]; omega
                  · have q1 : ((n : Int) == 1) = false := by rw [beq_eq_false_iff_ne]; omega
                    by_cases n2 : n = 2
                    · have q2 : ((n : Int) == 2) = true := by rw [beq_iff_eq]; omega
                      have er : runT b (b + 1) = sp b ++ sp (b + 1) := by unfold runT; rw [if_neg (by omega), if_pos (by omega)]; simp
                      have HF3 := hide (show (l ++ sp b ++ sp (b + 1)) ++ prR p f (b + 1) = R by rw [← unhide HF2, show z = b + 1 by omega, er]; simp)
                      have hs3 := sp_len (b + 1)
                      have A2 := fun W => run_add W (l ++ sp b) (sp (b + 1)) (by rw [List.length_append]; omega)
                      have K := hide (fun W => spelt_any (b + 1) (by omega) W)
                      rw [show (((b + 1 : Nat)) : Int) = (b : Int) + 1 by omega] at K
                      clear HF2 hre n1 n2
                      go_wp2_with fail
                      refine (spelt_any b hlt _).mono ?_
                      rintro e w2 ⟨rfl, hb2⟩
                      go_wp2_with fail
                      refine (unhide K _).mono ?_
                      rintro e w3 ⟨rfl, hb3⟩
                      go_wp2
                      go_roundw
                      case rel => exact ⟨b + 1, f, l ++ sp b ++ sp (b + 1), by omega, by go_num, by first | rfl | simp, row_below (row_below hg hb2) hb3, bnext (bnext hbl hb2) hb3, HF3, by omega⟩
                      case measure => simp [intOf]; omega
                    · have q2 : ((n : Int) == 2) = false := by rw [beq_eq_false_iff_ne]; omega
                      have er : runT b (b + n - 1) = sp b ++ ([45] ++ sp (b + n - 1)) := by unfold runT; rw [if_pos (by omega), if_pos (by omega)]
                      have HF3 := hide (show (l ++ sp b ++ [45] ++ sp (b + n - 1)) ++ prR p f (b + 1) = R by rw [← unhide HF2, ← hre, er]; simp)
                      have A2 := fun W => run_add W (l ++ sp b) [45] (by rw [List.length_append]; simp; omega)
                      have A3 := fun W => run_add W (l ++ (sp b ++ [45])) (sp (b + n - 1)) (by rw [List.length_append, List.length_append]; simp; omega)
                      have K := hide (fun W => spelt_any (b + n - 1) (by omega) W)
                      rw [show ((((b + n - 1) : Nat)) : Int) = (b : Int) + (n : Int) - 1 by omega] at K
                      clear HF2 hre
                      go_wp2_with fail
                      refine (spelt_any b hlt _).mono ?_
                      rintro e w2 ⟨rfl, hb2⟩
                      go_wp2_with fail
                      refine (unhide K _).mono ?_
                      rintro e w3 ⟨rfl, hb3⟩
                      go_wp2
                      go_roundw
                      case rel => exact ⟨b + 1, f, l ++ sp b ++ [45] ++ sp (b + n - 1), by omega, by go_num, by first | rfl | simp, row_below (row_below hg hb2) hb3, bnext (bnext hbl hb2) hb3, HF3, by omega⟩
                      case measure => simp [intOf]; omega
              · have h5 : ¬ (b : Int) + (n : Int) < 256 := by omega
                rw [decide_eq_false (show ¬ b + n - 1 < 255 by omega), Bool.false_and, if_neg (by decide)] at hre
                have hs1 := sp_len b
                have hs2 := sp_len (b + n - 1)
                have A1 := fun W => run_add W l (sp b) (by omega)
                by_cases n1 : n = 1
                · have q1 : ((n : Int) == 1) = true := by rw [beq_iff_eq]; omega
                  have er : runT b b = sp b := by unfold runT; rw [if_neg (by omega), if_neg (by omega)]; simp
                  have HF3 := hide (show (l ++ sp b) ++ prR p f (b + 1) = R by rw [← unhide HF2, show z = b by omega, er, List.append_assoc])
                  clear HF2 hre n1
                  go_wp2_with fail
                  refine (spelt_any b hlt _).mono ?_
                  rintro e w2 ⟨rfl, hb2⟩
                  go_wp2
                  go_roundw
                  case rel => exact ⟨b + 1, f, l ++ sp b, by omega, by go_num, by first | rfl | simp, row_below hg hb2, bnext hbl hb2, HF3, by omega⟩
                  case measure => simp [intOf]; omega
                · have q1 : ((n : Int) == 1) = false := by rw [beq_eq_false_iff_ne]; omega
                  by_cases n2 : n = 2
                  · have q2 : ((n : Int) == 2) = true := by rw [beq_iff_eq]; omega
                    have er : runT b (b + 1) = sp b ++ sp (b + 1) := by unfold runT; rw [if_neg (by omega), if_pos (by omega)]; simp
                    have HF3 := hide (show (l ++ sp b ++ sp (b + 1)) ++ prR p f (b + 1) = R by rw [← unhide HF2, show z = b + 1 by omega, er]; simp)
                    have hs3 := sp_len (b + 1)
                    have A2 := fun W => run_add W (l ++ sp b) (sp (b + 1)) (by rw [List.length_append]; omega)
                    have K := hide (fun W => spelt_any (b + 1) (by omega) W)
                    rw [show (((b + 1 : Nat)) : Int) = (b : Int) + 1 by omega] at K
                    clear HF2 hre n1 n2
                    go_wp2_with fail
                    refine (spelt_any b hlt _).mono ?_
                    rintro e w2 ⟨rfl, hb2⟩
                    go_wp2_with fail
                    refine (unhide K _).mono ?_
                    rintro e w3 ⟨rfl, hb3⟩
                    go_wp2
                    go_roundw
                    case rel => exact ⟨b + 1, f, l ++ sp b ++ sp (b + 1), by omega, by go_num, by first | rfl | simp, row_below (row_below hg hb2) hb3, bnext (bnext hbl hb2) hb3, HF3, by omega⟩
                    case measure => simp [intOf]; omega
                  · have q2 : ((n : Int) == 2) = false := by rw [beq_eq_false_iff_ne]; omega
                    have er : runT b (b + n - 1) = sp b ++ ([45] ++ sp (b + n - 1)) := by unfold runT; rw [if_pos (by omega), if_pos (by omega)]
                    have HF3 := hide (show (l ++ sp b ++ [45] ++ sp (b + n - 1)) ++ prR p f (b + 1) = R by rw [← unhide HF2, ← hre, er]; simp)
                    have A2 := fun W => run_add W (l ++ sp b) [45] (by rw [List.length_append]; simp; omega)
                    have A3 := fun W => run_add W (l ++ (sp b ++ [45])) (sp (b + n - 1)) (by rw [List.length_append, List.length_append]; simp; omega)
                    have K := hide (fun W => spelt_any (b + n - 1) (by omega) W)
                    rw [show ((((b + n - 1) : Nat)) : Int) = (b : Int) + (n : Int) - 1 by omega] at K
                    clear HF2 hre
                    go_wp2_with fail
                    refine (spelt_any b hlt _).mono ?_
                    rintro e w2 ⟨rfl, hb2⟩
                    go_wp2_with fail
                    refine (unhide K _).mono ?_
                    rintro e w3 ⟨rfl, hb3⟩
                    go_wp2
                    go_roundw
                    case rel => exact ⟨b + 1, f, l ++ sp b ++ [45] ++ sp (b + n - 1), by omega, by go_num, by first | rfl | simp, row_below (row_below hg hb2) hb3, bnext (bnext hbl hb2) hb3, HF3, by omega⟩
                    case measure => simp [intOf]; omega
    · obtain rfl : b = 256 := by omega
      have hF := unhide HF
      rw [prR_over p 256 (Nat.le_refl _), List.append_nil] at hF
      subst hF
      have HB := hide hbl
      clear hg hbl HF
      go_wp2
      go_ret
      exact ⟨rfl, unhide HB⟩
end Go.Proofs.Ytgamnhmkimonnaa
