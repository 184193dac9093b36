/- slices.Concat of lists of names. -/
import Derived.Test.YtpclpjcemeckgaaDoorCkC
namespace Go.Proofs.YtpclpjcemeckgaaDoor
open Go.RowKit

def catL (Ns : List NL) : List ByteArray := Ns.flatMap (·.l)
theorem catL_step {Ns : List NL} {k : Nat} {N : NL} (h : Ns[k]? = some N) : catL (Ns.take (k + 1)) = catL (Ns.take k) ++ N.l := by
  unfold catL
  rw [List.take_add_one, h]
  simp
theorem catL_len {Ns : List NL} (h : ∀ N ∈ Ns, N.l.length ≤ 100) : ∀ k, (catL (Ns.take k)).length ≤ 100 * k
  | 0 => by simp [catL]
  | k + 1 => by
    have ih := catL_len h k
    cases hk : Ns[k]? with
    | none => rw [List.take_add_one, hk]; simp only [Option.toList_none, List.append_nil]; omega
    | some N =>
      have := h N (List.mem_of_getElem? hk)
      rw [catL_step hk, List.length_append]; omega
theorem size_slS : (Tryd.prog.info? 42).map (·.size) = some 1 := by kernel_rfl
set_option maxRecDepth 100000 in
set_option maxHeartbeats 4000000 in
theorem concat_any (Ns : List NL) (g : Nat) (w : World) (hlen : Ns.length ≤ 10) (hN : ∀ i N, Ns[i]? = some N → w.cell? ⟨g, i, none⟩ = some N.v ∧ N.In w ∧ N.l.length ≤ 100) :
    Calls Tryd.prog 42 #[.slice (some ⟨g, 0, none⟩) Ns.length Ns.length] w fun e w' => (∃ v, e = .returned v ∧ TRow w' w.heap.size v (catL Ns)) ∧ Below w.heap.size w w' := by
  have HN := hide hN
  have HLB := hide (catL_len (Ns := Ns) fun N h => by obtain ⟨i, hi⟩ := List.getElem?_of_mem h; exact (hN i N hi).2.2)
  clear hN
  obtain ⟨n, hn⟩ : ∃ n, n = Ns.length := ⟨_, rfl⟩
  rw [← hn] at hlen ⊢
  have HL := hide hn
  clear hn
  go_enter Tryd.func42, Tryd.ntmps42
  go_wp2_with fail
  go_loop [3, 11] (fun s i => ∃ k : Nat, k ≤ n ∧ i = .int .i64 (k : Int) ∧ s = .int .i64 ((catL (Ns.take k)).length : Int)) (fun _ i => n - (intOf i).toNat)
  case atStart => exact ⟨0, by omega, rfl, rfl⟩
  case round =>
    obtain ⟨k, hk, rfl, rfl⟩ := hrel
    have hb := unhide HLB k
    rcases Nat.lt_or_ge k n with hlt | hge
    · obtain ⟨N, hNk⟩ : ∃ N, Ns[k]? = some N := ⟨Ns[k]'(by have := unhide HL; omega), List.getElem?_eq_getElem _⟩
      obtain ⟨ct, hIn, h100⟩ := unhide HN k N hNk
      have hcm := hIn.cap
      have hmx := hIn.max
      have HS := hide (show (catL (Ns.take (k + 1))).length = (catL (Ns.take k)).length + N.l.length by rw [catL_step hNk, List.length_append])
      have hix := sl_idx (g := g) (o := 0) (cap := n) (i := k) (n := n) Tryd.underlying93 size_slS hlt
      rw [Nat.zero_add] at hix
      unfold NL.v at ct
      unfold maxLen at hmx
      clear hIn hNk
      generalize (catL (Ns.take k)).length = m at *
      generalize N.l.length = nl at *
      have hng : ¬ (m : Int) + (nl : Int) < 0 := by omega
      go_wp2_with fail
      exact ⟨⟨k + 1, by omega, rfl, by rw [unhide HS]; rfl⟩, by simp [intOf]; omega⟩
    · obtain rfl : k = n := by omega
      have HG := hide (grow_any (catL (Ns.take k)).length w (by omega))
      generalize (catL (Ns.take k)).length = m at *
      go_wp2_with fail
      refine (unhide HG).mono ?_
      rintro e w1 ⟨⟨v1, rfl, hrow1⟩, hb1⟩
      have HR1 := hide hrow1
      have HB1 := hide hb1
      clear hrow1 hb1 HG
      go_wp2_with fail
      go_loopw [6, 27] (fun v i wr => ∃ j : Nat, j ≤ k ∧ i = .int .i64 (j : Int) ∧ Hid (TRow wr w.heap.size v (catL (Ns.take j))) ∧ Hid (Below w.heap.size w wr)) (fun _ i _ => k - (intOf i).toNat)
      case atStart => exact ⟨0, by omega, rfl, unhide HR1, unhide HB1⟩
      case round =>
        obtain ⟨j, hj, rfl, HR, HB⟩ := hrel
        have hbj := unhide HLB j
        have hsr := (unhide HB).size
        rcases Nat.lt_or_ge j k with hlt | hge2
        · obtain ⟨N, hNk⟩ : ∃ N, Ns[j]? = some N := ⟨Ns[j]'(by have := unhide HL; omega), List.getElem?_eq_getElem _⟩
          obtain ⟨ct0, hIn0, h100⟩ := unhide HN j N hNk
          have ct := cell_later (unhide HB) ct0
          have HIn := hide (hIn0.later (unhide HB))
          have hix := sl_idx (g := g) (o := 0) (cap := k) (i := j) (n := k) Tryd.underlying93 size_slS hlt
          rw [Nat.zero_add] at hix
          have HS := hide (catL_step hNk)
          have hg : (j : Int) < (k : Int) := by omega
          clear ct0 hIn0 hNk
          go_wp2_with (first
            | (at_builtin; refine wpl_names rfl _ _ rfl (unhide HR) N (unhide HIn) hsr (by omega) (by omega) rfl rfl ?_; intro v' w6 hrow hgrow)
            | fail)
          have HK := hide (And.intro hrow (below_grownR (unhide HB) (unhide HR) (Nat.le_refl _) hgrow))
          clear hrow hgrow
          exact ⟨⟨j + 1, by omega, rfl, by rw [unhide HS]; exact (unhide HK).1, (unhide HK).2⟩, by simp [intOf]; omega⟩
        · obtain rfl : j = k := by omega
          go_wp2_with fail
          go_ret
          refine ⟨⟨_, rfl, ?_⟩, unhide HB⟩
          have h := unhide HR
          rw [unhide HL, List.take_length] at h
          exact h
end Go.Proofs.YtpclpjcemeckgaaDoor
