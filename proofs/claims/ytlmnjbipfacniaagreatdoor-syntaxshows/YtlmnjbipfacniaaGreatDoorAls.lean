/- Short names. -/
import Derived.Below
import Derived.ChangeArms
import Derived.DataReads
import Derived.Laws.AppendOwn
import Derived.Laws.Entries
import Derived.Laws.Rows
import Derived.Laws.Sem
import Derived.Laws.Strings
import Derived.Laws.Tables
import Derived.Laws.World
import Derived.Lib.Strings
import Derived.Orders
import Derived.Tactics
import Derived.WalkSpells
import Derived.Below
namespace Go.Proofs.YtlmnjbipfacniaaGreatDoor
open Go.RowKit
theorem ac:type_of% @if_neg:=@if_neg
theorem aG {α:Type _} (a:α) (as:List α) (h:0<(a::as).length):(a::as)[0]=a:=rfl
theorem aH {α:Type _} {xs:List α} {i:Nat} (h:i<xs.toArray.size):xs.toArray[i]=xs[i]:=rfl
theorem aJ {α:Type _} (a:α) (as:List α) (i:Nat) (h:i+1<(a::as).length):(a::as)[i+1]=getElem as i (Nat.lt_of_succ_lt_succ h):=rfl
theorem bC:type_of% @Array.getElem?_eq_some_iff:=@Array.getElem?_eq_some_iff
theorem aw:type_of% @Nat.le_refl:=@Nat.le_refl
theorem af:type_of% @if_pos:=@if_pos
theorem av:type_of% @Go.cell_later:=@Go.cell_later
theorem be:type_of% @List.length_append:=@List.length_append
theorem bh:type_of% @Go.wpList_store_row:=@Go.wpList_store_row
theorem da:type_of% @Go.World.block_lt_of_cell?:=@Go.World.block_lt_of_cell?
theorem aD:type_of% @congrArg:=@congrArg
theorem aV:type_of% @Go.RowKit.Below.refl:=@Go.RowKit.Below.refl
theorem bv:type_of% @Nat.le_trans:=@Nat.le_trans
theorem dh:type_of% @Go.heap_setCell_other:=@Go.heap_setCell_other
theorem bK:type_of% @Go.bodyPost_ret:=@Go.bodyPost_ret
theorem db:type_of% @decide_eq_false:=@decide_eq_false
theorem bW:type_of% @Go.setRow_heap:=@Go.setRow_heap
theorem cN:type_of% @Go.frozen_of_row:=@Go.frozen_of_row
theorem cG:type_of% @Nat.lt_or_ge:=@Nat.lt_or_ge
theorem dM:type_of% @Go.results_cell_row:=@Go.results_cell_row
theorem dS:type_of% @Go.World.size_alloc:=@Go.World.size_alloc
theorem gT:type_of% @List.getElem?_eq_getElem:=@List.getElem?_eq_getElem
theorem eg:type_of% @List.not_mem_nil:=@List.not_mem_nil
theorem cU:type_of% @Nat.zero_le:=@Nat.zero_le
theorem dO:type_of% @List.mem_cons:=@List.mem_cons
theorem kG:type_of% @List.eq_nil_of_length_eq_zero:=@List.eq_nil_of_length_eq_zero
theorem fB:type_of% @Go.heap_setCell_same:=@Go.heap_setCell_same
theorem fT:type_of% @List.append_assoc:=@List.append_assoc
theorem gL:type_of% @Nat.lt_of_lt_of_le:=@Nat.lt_of_lt_of_le
theorem fk:type_of% @decide_eq_true:=@decide_eq_true
theorem gU:type_of% @List.flatMap_cons:=@List.flatMap_cons
theorem fM:type_of% @List.map_cons:=@List.map_cons
theorem eB:type_of% @Go.cell_of_row:=@Go.cell_of_row
theorem eZ:type_of% @Go.setRow_other:=@Go.setRow_other
theorem jv:type_of% @List.mem_singleton:=@List.mem_singleton
theorem iE:type_of% @List.flatMap_nil:=@List.flatMap_nil
theorem mG:type_of% @List.getElem?_eq_some_iff:=@List.getElem?_eq_some_iff
theorem kH:type_of% @List.mem_cons_of_mem:=@List.mem_cons_of_mem
theorem io:type_of% @Go.wpList_load_row:=@Go.wpList_load_row
theorem lW:type_of% @Go.ByteArray.toList_eq:=@Go.ByteArray.toList_eq
theorem eh:type_of% @false_or:=@false_or
theorem lJ:type_of% @List.size_toArray:=@List.size_toArray
theorem nc:type_of% @beq_eq_false_iff_ne:=@beq_eq_false_iff_ne
theorem lX:type_of% @Go.World.ownsRow_nil:=@Go.World.ownsRow_nil
theorem lf:type_of% @List.append_nil:=@List.append_nil
theorem lK:type_of% @Option.some.inj:=@Option.some.inj
theorem oS:type_of% @List.mem_of_getElem?:=@List.mem_of_getElem?
theorem nf:type_of% @of_decide_eq_true:=@of_decide_eq_true
theorem jM:type_of% @List.map_nil:=@List.map_nil
theorem og:type_of% @Go.World.size_setCell:=@Go.World.size_setCell
theorem fN:type_of% @or_false:=@or_false
theorem mH:type_of% @List.cons.injEq:=@List.cons.injEq
theorem oh:type_of% @List.map_toArray:=@List.map_toArray
theorem sa:type_of% @Array.getElem?_toList:=@Array.getElem?_toList
theorem qb:type_of% @List.getElem?_map:=@List.getElem?_map
theorem lL:type_of% @Go.Addr.add_lit:=@Go.Addr.add_lit
theorem qc:type_of% @Go.DataW.trod_string:=@Go.DataW.trod_string
theorem oT:type_of% @List.length_map:=@List.length_map
theorem oU:type_of% @List.map_append:=@List.map_append
theorem nh:type_of% @Prod.mk.injEq:=@Prod.mk.injEq
theorem sc:type_of% @List.mem_cons_self:=@List.mem_cons_self
theorem ni:type_of% @Nat.zero_add:=@Nat.zero_add
theorem wq:type_of% @List.getElem?_eq_none:=@List.getElem?_eq_none
theorem ws:type_of% @ByteArray.size_append:=@ByteArray.size_append
theorem uJ:type_of% @UInt8.toNat_ofNat':=@UInt8.toNat_ofNat'
theorem uK:type_of% @Option.some.injEq:=@Option.some.injEq
theorem tp:type_of% @UInt8.toNat_inj:=@UInt8.toNat_inj
theorem qd:type_of% @Go.Sem.run_bind:=@Go.Sem.run_bind
theorem sd:type_of% @Go.DataW.trod_int:=@Go.DataW.trod_int
theorem uL:type_of% @List.getElem_mem:=@List.getElem_mem
theorem uM:type_of% @Bool.and_eq_true:=@Bool.and_eq_true
theorem uN:type_of% @List.all_eq_true:=@List.all_eq_true
theorem yF:type_of% @List.getD_eq_getElem?_getD:=@List.getD_eq_getElem?_getD
theorem yG:type_of% @List.drop_eq_getElem_cons:=@List.drop_eq_getElem_cons
theorem uO:type_of% @Go.World.ownsRow.lt:=@Go.World.ownsRow.lt
theorem uP:type_of% @Bool.eq_iff_iff:=@Bool.eq_iff_iff
theorem uQ:type_of% @List.mem_append:=@List.mem_append
theorem mI:type_of% @and_true:=@and_true
theorem ol:type_of% @Go.mem_ready:=@Go.mem_ready
theorem uR:type_of% @Go.run_loadVar_row:=@Go.run_loadVar_row
theorem wt:type_of% @Go.World.cells?_some:=@Go.World.cells?_some
theorem uS:type_of% @Go.run_underlying:=@Go.run_underlying
theorem xB:type_of% @List.take_add_one:=@List.take_add_one
theorem se:type_of% @beq_iff_eq:=@beq_iff_eq
theorem sf:type_of% @bne_iff_ne:=@bne_iff_ne
theorem xC:type_of% @List.isEmpty_iff:=@List.isEmpty_iff
theorem xD:type_of% @Go.DataW.trod_struct:=@Go.DataW.trod_struct
theorem wu:type_of% @Nat.lt_irrefl:=@Nat.lt_irrefl
theorem tq:type_of% @Go.Lib.size_eq:=@Go.Lib.size_eq
theorem Aq:type_of% @List.take_of_length_le:=@List.take_of_length_le
theorem wv:type_of% @List.map_map:=@List.map_map
theorem yH:type_of% @List.take_length:=@List.take_length
theorem xE:type_of% @Bool.false_or:=@Bool.false_or
theorem Ar:type_of% @List.length_pos_iff:=@List.length_pos_iff
theorem As:type_of% @List.map_congr_left:=@List.map_congr_left
abbrev Z24:Array Value:=#[.string ⟨#[]⟩, .int .i64 0, .int .i64 0, .string ⟨#[]⟩, .int .i64 0, .string ⟨#[]⟩, .slice none 0 0, .int .i64 0, .string ⟨#[]⟩, .int .i64 0, .string ⟨#[]⟩, .slice none 0 0, .int .i64 0, .string ⟨#[]⟩, .int .i64 0, .string ⟨#[]⟩, .slice none 0 0, .string ⟨#[]⟩, .string ⟨#[]⟩, .slice none 0 0, .slice none 0 0, .string ⟨#[]⟩, .string ⟨#[]⟩, .string ⟨#[]⟩]
end Go.Proofs.YtlmnjbipfacniaaGreatDoor
