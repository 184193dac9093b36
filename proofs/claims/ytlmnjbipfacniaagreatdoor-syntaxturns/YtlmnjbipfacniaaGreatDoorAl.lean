/- Short names. -/
import Derived.Below
import Derived.ChangeArms
import Derived.DataReads
import Derived.Laws.AppendOwn
import Derived.Laws.Entries
import Derived.Laws.Rows
import Derived.Laws.Sem
import Derived.Laws.Strings
import Derived.Laws.Tables
import Derived.Laws.World
import Derived.Orders
import Derived.Tactics
import Derived.WalkSpells
import Derived.Below
namespace Go.Proofs.YtlmnjbipfacniaaGreatDoor
open Go.RowKit
theorem ac:type_of% @if_neg:=@if_neg
theorem aG {α:Type _} (a:α) (as:List α) (h:0<(a::as).length):(a::as)[0]=a:=rfl
theorem aH {α:Type _} {xs:List α} {i:Nat} (h:i<xs.toArray.size):xs.toArray[i]=xs[i]:=rfl
theorem aP {α:Type _} (a:α) (as:List α) (i:Nat) (h:i+1<(a::as).length):(a::as)[i+1]=getElem as i (Nat.lt_of_succ_lt_succ h):=rfl
theorem bC:type_of% @Array.getElem?_eq_some_iff:=@Array.getElem?_eq_some_iff
theorem af:type_of% @if_pos:=@if_pos
theorem ax:type_of% @Nat.le_refl:=@Nat.le_refl
theorem av:type_of% @Go.cell_later:=@Go.cell_later
theorem bg:type_of% @List.length_append:=@List.length_append
theorem aX:type_of% @Go.wpList_store_row:=@Go.wpList_store_row
theorem de:type_of% @Go.World.block_lt_of_cell?:=@Go.World.block_lt_of_cell?
theorem aW:type_of% @Go.RowKit.Below.refl:=@Go.RowKit.Below.refl
theorem dm:type_of% @Go.heap_setCell_other:=@Go.heap_setCell_other
theorem aJ:type_of% @congrArg:=@congrArg
theorem bJ:type_of% @Nat.le_trans:=@Nat.le_trans
theorem dh:type_of% @decide_eq_false:=@decide_eq_false
theorem ck:type_of% @Go.bodyPost_ret:=@Go.bodyPost_ret
theorem cT:type_of% @Go.frozen_of_row:=@Go.frozen_of_row
theorem dT:type_of% @Go.results_cell_row:=@Go.results_cell_row
theorem cm:type_of% @Go.setRow_heap:=@Go.setRow_heap
theorem ek:type_of% @List.not_mem_nil:=@List.not_mem_nil
theorem cX:type_of% @Nat.lt_or_ge:=@Nat.lt_or_ge
theorem eu:type_of% @Go.World.size_alloc:=@Go.World.size_alloc
theorem fE:type_of% @List.mem_singleton:=@List.mem_singleton
theorem cU:type_of% @Nat.zero_le:=@Nat.zero_le
theorem dU:type_of% @List.mem_cons:=@List.mem_cons
theorem dH:type_of% @Go.setRow_other:=@Go.setRow_other
theorem kJ:type_of% @List.eq_nil_of_length_eq_zero:=@List.eq_nil_of_length_eq_zero
theorem fK:type_of% @Go.heap_setCell_same:=@Go.heap_setCell_same
theorem jH:type_of% @List.getElem?_eq_getElem:=@List.getElem?_eq_getElem
theorem gg:type_of% @List.append_assoc:=@List.append_assoc
theorem eW:type_of% @decide_eq_true:=@decide_eq_true
theorem ia:type_of% @List.flatMap_cons:=@List.flatMap_cons
theorem gG:type_of% @Go.wpList_load_row:=@Go.wpList_load_row
theorem i6:type_of% @Nat.lt_of_lt_of_le:=@Nat.lt_of_lt_of_le
theorem iQ:type_of% @List.flatMap_nil:=@List.flatMap_nil
theorem eX:type_of% @Go.cell_of_row:=@Go.cell_of_row
theorem ib:type_of% @List.map_cons:=@List.map_cons
theorem lY:type_of% @List.mem_cons_of_mem:=@List.mem_cons_of_mem
theorem el:type_of% @false_or:=@false_or
theorem k8:type_of% @Option.some.inj:=@Option.some.inj
theorem k9:type_of% @List.append_nil:=@List.append_nil
theorem m7:type_of% @Go.ByteArray.toList_eq:=@Go.ByteArray.toList_eq
theorem mG:type_of% @of_decide_eq_true:=@of_decide_eq_true
theorem rN:type_of% @List.getElem?_eq_some_iff:=@List.getElem?_eq_some_iff
theorem m8:type_of% @Go.World.ownsRow_nil:=@Go.World.ownsRow_nil
theorem fL:type_of% @or_false:=@or_false
theorem nV:type_of% @Go.World.size_setCell:=@Go.World.size_setCell
theorem kK:type_of% @List.map_nil:=@List.map_nil
theorem pL:type_of% @beq_eq_false_iff_ne:=@beq_eq_false_iff_ne
theorem nW:type_of% @List.cons.injEq:=@List.cons.injEq
theorem rO:type_of% @List.mem_of_getElem?:=@List.mem_of_getElem?
theorem pM:type_of% @Go.DataW.trod_string:=@Go.DataW.trod_string
theorem pN:type_of% @List.map_toArray:=@List.map_toArray
theorem th:type_of% @Array.getElem?_toList:=@Array.getElem?_toList
theorem nX:type_of% @Prod.mk.injEq:=@Prod.mk.injEq
theorem qz:type_of% @List.getElem_mem:=@List.getElem_mem
theorem rP:type_of% @List.getElem?_map:=@List.getElem?_map
theorem qA:type_of% @List.map_append:=@List.map_append
theorem rQ:type_of% @List.all_eq_true:=@List.all_eq_true
theorem nY:type_of% @Go.Addr.add_lit:=@Go.Addr.add_lit
theorem oI:type_of% @Nat.zero_add:=@Nat.zero_add
theorem uS:type_of% @List.map_congr_left:=@List.map_congr_left
theorem rR:type_of% @List.mem_append:=@List.mem_append
theorem wn:type_of% @ByteArray.size_append:=@ByteArray.size_append
theorem tj:type_of% @Bool.and_eq_true:=@Bool.and_eq_true
theorem uT:type_of% @UInt8.toNat_ofNat':=@UInt8.toNat_ofNat'
theorem uU:type_of% @List.mem_cons_self:=@List.mem_cons_self
theorem tm:type_of% @UInt8.toNat_inj:=@UInt8.toNat_inj
theorem rS:type_of% @Go.DataW.trod_int:=@Go.DataW.trod_int
theorem tn:type_of% @Go.run_loadVar_row:=@Go.run_loadVar_row
theorem xB:type_of% @List.getElem?_eq_none:=@List.getElem?_eq_none
theorem uV:type_of% @Go.World.ownsRow.lt:=@Go.World.ownsRow.lt
theorem uW:type_of% @List.length_map:=@List.length_map
theorem uX:type_of% @Bool.eq_iff_iff:=@Bool.eq_iff_iff
theorem wo:type_of% @List.size_toArray:=@List.size_toArray
theorem nZ:type_of% @Go.mem_ready:=@Go.mem_ready
theorem rT:type_of% @Go.Sem.run_bind:=@Go.Sem.run_bind
theorem xC:type_of% @of_decide_eq_false:=@of_decide_eq_false
theorem n0:type_of% @and_true:=@and_true
theorem rU:type_of% @bne_iff_ne:=@bne_iff_ne
theorem AA:type_of% @List.getD_eq_getElem?_getD:=@List.getD_eq_getElem?_getD
theorem xD:type_of% @List.isEmpty_iff:=@List.isEmpty_iff
theorem uY:type_of% @List.map_map:=@List.map_map
theorem AB:type_of% @List.drop_eq_getElem_cons:=@List.drop_eq_getElem_cons
theorem xE:type_of% @Go.DataW.trod_struct:=@Go.DataW.trod_struct
theorem wq:type_of% @Go.run_underlying:=@Go.run_underlying
theorem tp:type_of% @beq_iff_eq:=@beq_iff_eq
theorem yI:type_of% @Option.some.injEq:=@Option.some.injEq
theorem AC:type_of% @ByteArray.data_extract:=@ByteArray.data_extract
theorem AD:type_of% @List.take_of_length_le:=@List.take_of_length_le
theorem xF:type_of% @Bool.false_or:=@Bool.false_or
theorem xG:type_of% @Nat.lt_irrefl:=@Nat.lt_irrefl
theorem yJ:type_of% @Go.World.cells?_some:=@Go.World.cells?_some
theorem AE:type_of% @List.length_pos_iff:=@List.length_pos_iff
abbrev Z24:Array Value:=#[.string ⟨#[]⟩, .int .i64 0, .int .i64 0, .string ⟨#[]⟩, .int .i64 0, .string ⟨#[]⟩, .slice none 0 0, .int .i64 0, .string ⟨#[]⟩, .int .i64 0, .string ⟨#[]⟩, .slice none 0 0, .int .i64 0, .string ⟨#[]⟩, .int .i64 0, .string ⟨#[]⟩, .slice none 0 0, .string ⟨#[]⟩, .string ⟨#[]⟩, .slice none 0 0, .slice none 0 0, .string ⟨#[]⟩, .string ⟨#[]⟩, .string ⟨#[]⟩]
end Go.Proofs.YtlmnjbipfacniaaGreatDoor
