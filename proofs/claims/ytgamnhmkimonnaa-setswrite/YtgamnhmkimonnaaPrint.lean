/- What sets.Print does, for every set. -/
import Derived.Test.YtgamnhmkimonnaaAppendByte
namespace Go.Proofs.Ytgamnhmkimonnaa
open Go.RowKit

/-- Where a run that is at b ends (at most f bytes further). -/
def re (p : Nat → Bool) : Nat → Nat → Nat
  | 0, b => b
  | f + 1, b => if b < 255 && p (b + 1) then re p f (b + 1) else b
theorem re_succ (p : Nat → Bool) (f b : Nat) : re p (f + 1) b = if b < 255 && p (b + 1) then re p f (b + 1) else b := rfl
/-- A set as it is written, from b on. -/
def pr (p : Nat → Bool) : Nat → Nat → List UInt8
  | 0, _ => []
  | f + 1, b => if b < 256 then if p b then runT b (re p 256 b) ++ pr p f (re p 256 b + 1) else pr p f (b + 1) else []
theorem re_ge (p : Nat → Bool) : ∀ f b, b ≤ re p f b
  | 0, b => Nat.le_refl _
  | f + 1, b => by
    unfold re
    split
    · have := re_ge p f (b + 1); omega
    · exact Nat.le_refl _
theorem re_lt (p : Nat → Bool) : ∀ f b, b < 256 → re p f b < 256
  | 0, b, h => h
  | f + 1, b, h => by
    unfold re
    split
    · rename_i hc
      exact re_lt p f (b + 1) (by simp at hc; omega)
    · exact h
theorem pr_len (p : Nat → Bool) : ∀ f b, (pr p f b).length ≤ 7 * (256 - b)
  | 0, b => by simp [pr]
  | f + 1, b => by
    unfold pr
    split
    · rename_i hb
      split
      · have h1 := runT_len b (re p 256 b)
        have h2 := pr_len p f (re p 256 b + 1)
        have h3 := re_ge p 256 b
        rw [List.length_append]
        omega
      · have h2 := pr_len p f (b + 1)
        omega
    · simp

set_option maxHeartbeats 1000000 in
theorem print_any (p : Nat → Bool) (w : World) :
    Calls Try.prog 23 #[sv p] w fun e w' => e = .returned (.string ⟨(pr p 256 0).toArray⟩) ∧ Below w.heap.size w w' := by
  unfold sv
  have hcs := sc_size p
  have H1 := hide (fun k hk W => has_any p k hk W)
  unfold sv at H1
  have hi4 := size_set
  rw [← hcs] at hi4
  have hC : sc p = #[.int .u64 (wd p 0 : Int), .int .u64 (wd p 1 : Int), .int .u64 (wd p 2 : Int), .int .u64 (wd p 3 : Int)] := rfl
  generalize sc p = C at *
  have HC := hide hC
  clear hC
  have HI := hide hi4
  clear hi4
  obtain ⟨R, hR⟩ : ∃ R, R = pr p 256 0 := ⟨_, rfl⟩
  have hlen : R.length ≤ 1792 := by rw [hR]; exact pr_len p 256 0
  rw [← hR]
  have HR := hide hR
  clear hR
  go_enter Try.func23, Try.ntmps23
  go_wp2
  go_loopw [3, 4] (fun v i wr => ∃ (b f : Nat) (l : List UInt8), b ≤ 256 ∧ i = .int .i64 b ∧ wr.ownsRow (w.heap.size + 1) 5 1 v l.length (l.map bc) ∧ wr.heap[w.heap.size]? = some (.cells C 24 (0, 0)) ∧ Below w.heap.size w wr ∧ w.heap.size + 1 ≤ wr.heap.size ∧ Hid (l ++ pr p f b = R) ∧ 256 ≤ f + b) (fun _ i _ => 256 - (intOf i).toNat)
  case atStart => exact ⟨0, 256, [], by omega, rfl, World.ownsRow_nil _ _ _ _, at_new rfl, (Below.refl _ _).alloc (Nat.le_refl _) _, by simp only [World.size_alloc]; omega, by show [] ++ _ = _; rw [unhide HR]; rfl, by omega⟩
  case round =>
    obtain ⟨b, f, l, hb, rfl, ho, hg, hbl, hsz, HF, hf⟩ := hrel
    have hll : l.length ≤ 1792 := by
      have := congrArg List.length (unhide HF)
      rw [List.length_append] at this
      omega
    by_cases hlt : b < 256
    · have h1 : (b : Int) < 256 := by omega
      obtain ⟨f, rfl⟩ : ∃ g, f = g + 1 := ⟨f - 1, by omega⟩
      have hF := unhide HF
      unfold pr at hF
      rw [if_pos hlt] at hF
      have C1 := hide (unhide H1 b hlt)
      cases hp : p b with
      | false =>
        rw [hp] at C1 hF
        rw [if_neg (by decide)] at hF
        have HF2 := hide hF
        clear hF HF
        go_wp2_with (first
          | (refine wpList_load_row rfl 24 _ rfl w.heap.size rfl 24 C (0, 0) _ hg Try.underlying24 rfl (unhide HI) ?_)
          | (go_at_call 13; refine (unhide C1 _).mono ?_; rintro e w1 ⟨rfl, hb1⟩))
        go_roundw
        case rel => exact ⟨b + 1, f, l, by omega, by go_num, own_below ho hb1, row_below hg hb1, bnext hbl hb1, by have := hb1.size; omega, HF2, by omega⟩
        case measure => simp [intOf]; omega
      | true =>
        rw [hp] at C1 hF
        rw [if_pos rfl] at hF
        have HF2 := hide hF
        clear hF HF
        go_wp2_with (first
          | (refine wpList_load_row rfl 24 _ rfl w.heap.size rfl 24 C (0, 0) _ hg Try.underlying24 rfl (unhide HI) ?_)
          | (go_at_call 13; refine (unhide C1 _).mono ?_; rintro e w1 ⟨rfl, hb1⟩))
        have ho1 := own_below ho hb1
        have hg1 := row_below hg hb1
        have hbl1 := bnext hbl hb1
        have hs1 : w.heap.size + 1 ≤ w1.heap.size := by have := hb1.size; omega
        clear ho hg hbl hsz hb1
        go_loopw [4] (fun i wq => ∃ e g : Nat, b ≤ e ∧ e < 256 ∧ i = .int .i64 e ∧ re p g e = re p 256 b ∧ 256 ≤ g + e ∧ wq.ownsRow (w.heap.size + 1) 5 1 u3 l.length (l.map bc) ∧ wq.heap[w.heap.size]? = some (.cells C 24 (0, 0)) ∧ Below w.heap.size w wq ∧ w.heap.size + 1 ≤ wq.heap.size) (fun i _ => 256 - (intOf i).toNat)
        case atStart => exact ⟨b, 256, Nat.le_refl _, hlt, rfl, rfl, by omega, ho1, hg1, hbl1, hs1⟩
        case round =>
          obtain ⟨e, g, he1, he2, rfl, hre, hge, ho2, hg2, hbl2, hs2⟩ := hrel
          clear ho1 hg1 hbl1 hs1
          obtain ⟨g, rfl⟩ : ∃ k, g = k + 1 := ⟨g - 1, by omega⟩
          rw [re_succ] at hre
          by_cases hc : e < 255
          · have h2 : (e : Int) < 255 := by omega
            have C2 := hide (unhide H1 (e + 1) (by omega))
            rw [show (((e + 1 : Nat)) : Int) = (e : Int) + 1 by omega, unhide HC] at C2
            have c0 : wr.cell? ⟨w.heap.size, 0, none⟩ = some (.int .u64 (wd p 0 : Int)) := by rw [cell_of_row _ _ 0 _ _ _ hg2, unhide HC]; rfl
            have c1 : wr.cell? ⟨w.heap.size, 1, none⟩ = some (.int .u64 (wd p 1 : Int)) := by rw [cell_of_row _ _ 1 _ _ _ hg2, unhide HC]; rfl
            have c2 : wr.cell? ⟨w.heap.size, 2, none⟩ = some (.int .u64 (wd p 2 : Int)) := by rw [cell_of_row _ _ 2 _ _ _ hg2, unhide HC]; rfl
            have c3 : wr.cell? ⟨w.heap.size, 3, none⟩ = some (.int .u64 (wd p 3 : Int)) := by rw [cell_of_row _ _ 3 _ _ _ hg2, unhide HC]; rfl
            cases hq : p (e + 1) with
            | true =>
              rw [hq] at C2 hre
              rw [decide_eq_true hc, Bool.and_self, if_pos rfl] at hre
              have HRE := hide hre
              clear hre
              go_wp2_with (first
                | (go_at_call 13; refine (unhide C2 _).mono ?_; rintro e w2 ⟨rfl, hb2⟩))
              go_roundw
              case rel => exact ⟨e + 1, g, by omega, by omega, by go_num, unhide HRE, by omega, own_below ho2 hb2, row_below hg2 hb2, bnext hbl2 hb2, by have := hb2.size; omega⟩
              case measure => simp [intOf]; omega
            | false =>
              rw [hq] at C2 hre
              rw [Bool.and_false, if_neg (by decide)] at hre
              rw [← hre] at HF2
              clear hre
              have C3 := hide (fun W hW hsW => appendRun_any u3 l b e (w.heap.size + 1) he1 he2 W (by omega) hW hsW)
              go_wp2_with (first
                | (go_at_call 13; refine (unhide C2 _).mono ?_; rintro e w2 ⟨rfl, hb2⟩)
                | fail)
              refine (unhide C3 _ (own_below ho2 hb2) (by have := hb2.size; omega)).mono ?_
              rintro e w3 ⟨v3, rfl, ho3, hb3⟩
              go_wp2
              have hb4 : Below w.heap.size w w3 := (bnext hbl2 hb2).trans (hb3.mono (by omega))
              have hg4 : w3.heap[w.heap.size]? = some (.cells C 24 (0, 0)) := (hb3.block _ (by omega)).trans (row_below hg2 hb2)
              have hs4 : w.heap.size + 1 ≤ w3.heap.size := by have := hb3.size; have := hb2.size; omega
              go_roundw
              case rel => exact ⟨e + 1, f, l ++ runT b e, by omega, by go_num, ho3, hg4, hb4, hs4, by show _ ++ _ = _; rw [List.append_assoc]; exact unhide HF2, by omega⟩
              case measure => simp [intOf]; omega
          · obtain rfl : e = 255 := by omega
            rw [decide_eq_false hc, Bool.false_and, if_neg (by decide)] at hre
            rw [← hre] at HF2
            clear hre
            have C3 := hide (fun W hW hsW => appendRun_any u3 l b 255 (w.heap.size + 1) he1 he2 W (by omega) hW hsW)
            rw [show (((255 : Nat)) : Int) = 255 from rfl] at C3
            rw [show (((255 : Nat)) : Int) = 255 from rfl]
            go_wp2_with (first
              | (go_at_call 35; refine (unhide C3 _ ho2 hs2).mono ?_; rintro e w3 ⟨v3, rfl, ho3, hb3⟩))
            have hb4 : Below w.heap.size w w3 := hbl2.trans (hb3.mono (by omega))
            have hg4 : w3.heap[w.heap.size]? = some (.cells C 24 (0, 0)) := (hb3.block _ (by omega)).trans hg2
            have hs4 : w.heap.size + 1 ≤ w3.heap.size := by have := hb3.size; omega
            go_roundw
            case rel => exact ⟨256, f, l ++ runT b 255, by omega, by go_num, ho3, hg4, hb4, hs4, by show _ ++ _ = _; rw [List.append_assoc]; exact unhide HF2, by omega⟩
            case measure => simp [intOf]; omega
    · obtain rfl : b = 256 := by omega
      have hF := unhide HF
      have hnil : pr p f 256 = [] := by
        cases f with
        | zero => rfl
        | succ f => unfold pr; rw [if_neg (by omega)]
      rw [hnil, List.append_nil] at hF
      subst hF
      have hcv := out_string _ _ _ _ ho
      have HB := hide hbl
      clear ho hg hbl HF hnil
      go_wp2
      go_ret
      exact ⟨rfl, unhide HB⟩
end Go.Proofs.Ytgamnhmkimonnaa
