/- What the document's Spelt does: a byte as it is written. -/
import Derived.Test.YtgamnhmkimonnaaAppendByte
namespace Go.Proofs.Ytgamnhmkimonnaa
open Go.RowKit

theorem conv_new (W : World) (l : List UInt8) (cs : Array Value) (h : cs = (l.map bc).toArray) :
    (convert 45 9 (.slice (some ⟨W.heap.size, 0, none⟩) l.length l.length)).run Try.prog (W.alloc (.cells cs 5)) = .ok (.string ⟨l.toArray⟩) (W.alloc (.cells cs 5)) := by
  refine run_convert_bytes_back (P := Try.prog) (W.alloc (.cells cs 5)) 45 9 5 ⟨W.heap.size, 0, none⟩ l.length l Try.underlying45 Try.underlying5 Try.underlying9 (fun j hj => ?_)
  have hadd : (⟨W.heap.size, 0, none⟩ : Addr).add j = ⟨W.heap.size, j, none⟩ := by unfold Addr.add; split <;> simp_all
  rw [hadd, cell_of_row _ _ j cs _ (0, 0) (heap_alloc_last W _), h]
  simp [hj, bc]

theorem conv_drew (W : World) (l : List UInt8) (cs : Array Value) (h : cs = (l.map bc).toArray) :
    (convert 45 9 (.slice (some ⟨W.heap.size, 0, none⟩) l.length l.length)).run Try.prog (W.alloc (.cells cs 5)).drew = .ok (.string ⟨l.toArray⟩) (W.alloc (.cells cs 5)).drew := by
  refine run_convert_bytes_back (P := Try.prog) (W.alloc (.cells cs 5)).drew 45 9 5 ⟨W.heap.size, 0, none⟩ l.length l Try.underlying45 Try.underlying5 Try.underlying9 (fun j hj => ?_)
  have hadd : (⟨W.heap.size, 0, none⟩ : Addr).add j = ⟨W.heap.size, j, none⟩ := by unfold Addr.add; split <;> simp_all
  have hg : (W.alloc (.cells cs 5)).drew.heap[W.heap.size]? = some (.cells cs 5 (0, 0)) := heap_alloc_last W _
  rw [hadd, cell_of_row _ _ j cs _ (0, 0) hg, h]
  simp [hj, bc]

set_option maxHeartbeats 400000 in
theorem spelt_plain (b : Nat) (hb : b < 256) (w : World) (hp : plainN b = true) :
    Calls Try.prog 36 #[.int .i64 (b : Int)] w fun e w' => e = .returned (.string ⟨(sp b).toArray⟩) ∧ Below w.heap.size w w' := by
  have C := hide (fun W => refPlain_any b hb W)
  rw [hp] at C
  have hs : sp b = [UInt8.ofNat b] := by unfold sp; rw [if_pos hp]
  have h1 : (b : Int) < 256 := by omega
  have hcv := fun W => conv_new W [UInt8.ofNat b] #[.int .u8 (b : Int)] (by rw [← bc_nat b hb]; rfl)
  rw [← hs] at hcv
  rw [show (sp b).length = 1 by rw [hs]; rfl] at hcv
  obtain ⟨z, hz⟩ : ∃ z, z = (⟨(sp b).toArray⟩ : ByteArray) := ⟨_, rfl⟩
  rw [← hz]
  rw [← hz] at hcv
  clear hs hz
  go_enter Try.func36, Try.ntmps36
  go_wp2_with fail
  refine (unhide C _).mono ?_
  rintro e w ⟨rfl, rfl⟩
  go_wp2
  go_ret
  exact ⟨rfl, (Below.refl _ _).alloc (Nat.le_refl _) _⟩

set_option maxRecDepth 100000 in
set_option maxHeartbeats 1000000 in
theorem spelt_hex (b : Nat) (hb : b < 256) (w : World) (hp : plainN b = false) :
    Calls Try.prog 36 #[.int .i64 (b : Int)] w fun e w' => e = .returned (.string ⟨(sp b).toArray⟩) ∧ Below w.heap.size w w' := by
  have C := hide (fun W => refPlain_any b hb W)
  rw [hp] at C
  have hs : sp b = [92, hexDig (b / 16), hexDig (b % 16)] := by unfold sp; rw [hp]; rfl
  have h1 : (b : Int) < 256 := by omega
  have hcv := fun W => conv_drew W [92, hexDig (b / 16), hexDig (b % 16)] #[.int .u8 92, .int .u8 ((hexDig (b / 16)).toNat : Int), .int .u8 ((hexDig (b % 16)).toNat : Int)] rfl
  rw [← hs] at hcv
  rw [show (sp b).length = 3 by rw [hs]; rfl] at hcv
  obtain ⟨z, hz⟩ : ∃ z, z = (⟨(sp b).toArray⟩ : ByteArray) := ⟨_, rfl⟩
  rw [← hz]
  rw [← hz] at hcv
  have q1 := fun W => run_index_digs W .i64 (b / 16) (by omega)
  have q2 := fun W => run_index_digs W .i64 (b % 16) (by omega)
  rw [show (((b / 16 : Nat)) : Int) = (b : Int) / 16 by omega] at q1
  rw [show (((b % 16 : Nat)) : Int) = (b : Int) % 16 by omega] at q2
  unfold digs bc at q1 q2
  clear hs hz
  go_enter Try.func36, Try.ntmps36
  go_wp2_with (first
    | (go_at_call 41; refine (unhide C _).mono ?_; rintro e w ⟨rfl, rfl⟩))
  go_region
  all_goals go_wp2
  all_goals go_ret
  all_goals exact ⟨rfl, ((Below.refl _ _).alloc (Nat.le_refl _) _).drew⟩

theorem spelt_any (b : Nat) (hb : b < 256) (w : World) :
    Calls Try.prog 36 #[.int .i64 (b : Int)] w fun e w' => e = .returned (.string ⟨(sp b).toArray⟩) ∧ Below w.heap.size w w' := by
  cases hp : plainN b with
  | true => exact spelt_plain b hb w hp
  | false => exact spelt_hex b hb w hp
end Go.Proofs.Ytgamnhmkimonnaa
