/- What the library's digits are, laid from the library. A numb -/
import Derived.Below
import Derived.Shelf.LaysM
import Derived.Shelf.Strconv.Itoa0
import Derived.Shelf.Strconv.Itoa1
import Derived.Shelf.Strconv.Itoa2
import Derived.Shelf.Strconv.AppendUint10
import Derived.Test.YtlmnjbipfacniaaGreatDoorProg
import Derived.Test.YtlmnjbipfacniaaGreatDoorLexRepLibMs
import Derived.Test.YtlmnjbipfacniaaGreatDoorQuote4Ms
import Derived.Test.YtlmnjbipfacniaaGreatDoorExFitsMs
import Derived.Shelf.Strconv.AppendInt10
import Derived.Shelf.Strconv.AppendIntPublic10
import Derived.Test.YtlmnjbipfacniaaGreatDoorPrintBrkAMs
import Derived.Lib.AppendIntMem
import Derived.Lib.ItoaMem
import Derived.Lib.BufferKept
import Derived.Lib.Slices
import Derived.Lib.Walk
import Derived.Lib.ItoaWalk
set_option maxRecDepth 100000
set_option maxHeartbeats 2000000
namespace Go.Proofs
open Go.Shelf Go.RowKit Go.Lib Go.Sort
def Tryz.lays283_ren:Go.Shelf.Ren:=⟨fun | 283=>160 | n=>n,fun | 3=>3 | 9=>9 | 4=>4 | n=>n,fun | n=>n⟩
theorem Tryz.lays283:Go.Proofs.Lays.n283 Tryz.prog Tryz.lays283_ren:={
 mixed:=by kernel_rfl
 f283:=Tryz.func160.trans (congrArg some (by kernel_rfl))
 t3:=Tryz.underlying3
 a3:=Tryz.isAgg3
 z3:=Tryz.sizeOf3
 v3:=Tryz.zeroValue3
 t4:=Tryz.underlying4
 a4:=Tryz.isAgg4
 z4:=Tryz.sizeOf4
 v4:=Tryz.zeroValue4
 t9:=Tryz.underlying9
 a9:=Tryz.isAgg9
 z9:=Tryz.sizeOf9
 v9:=Tryz.zeroValue9}
theorem Tryz.internal_strconv_small (i:Nat) (h:i < 100) (w:World):
  Calls Tryz.prog 160 #[.int .i64 i] w fun e w'=>e=.returned (.string ⟨(Lib.decDigits i).toArray⟩)∧w'=w:=Any.internal_strconv_small Tryz.lays283 i h w
def Tryz.laysM284_ren:Go.Shelf.Ren:=⟨fun | 284=>161 | 129=>172 | 317=>171 | 318=>173 | n=>n,fun | 53=>187 | 3=>3 | 212=>203 | 0=>0 | 4=>4 | 46=>190 | 5=>5 | 9=>9 | n=>n,fun | 17=>3 | n=>n⟩
theorem Tryz.laysM284:Go.Proofs.LaysM.n284 Tryz.prog Tryz.laysM284_ren:={
 mixed:=by kernel_rfl
 f129:=Tryz.func172.trans (congrArg some (by kernel_rfl))
 f284:=Tryz.func161.trans (congrArg some (by kernel_rfl))
 f317:=Tryz.func171.trans (congrArg some (by kernel_rfl))
 f318:=Tryz.func173.trans (congrArg some (by kernel_rfl))
 t0:=Tryz.underlying0
 a0:=Tryz.isAgg0
 z0:=Tryz.sizeOf0
 v0:=Tryz.zeroValue0
 t3:=Tryz.underlying3
 a3:=Tryz.isAgg3
 z3:=Tryz.sizeOf3
 v3:=Tryz.zeroValue3
 t4:=Tryz.underlying4
 a4:=Tryz.isAgg4
 z4:=Tryz.sizeOf4
 v4:=Tryz.zeroValue4
 t5:=Tryz.underlying5
 a5:=Tryz.isAgg5
 z5:=Tryz.sizeOf5
 v5:=Tryz.zeroValue5
 t9:=Tryz.underlying9
 a9:=Tryz.isAgg9
 z9:=Tryz.sizeOf9
 v9:=Tryz.zeroValue9
 t46:=Tryz.underlying190
 a46:=Tryz.isAgg190
 z46:=Tryz.sizeOf190
 v46:=Tryz.zeroValue190
 t53:=Tryz.underlying187
 a53:=Tryz.isAgg187
 z53:=Tryz.sizeOf187
 v53:=Tryz.zeroValue187
 t212:=Tryz.underlying203
 a212:=Tryz.isAgg203
 z212:=Tryz.sizeOf203
 v212:=Tryz.zeroValue203
 g17:=by kernel_rfl
 i0:=by kernel_rfl
 i3:=by kernel_rfl
 i4:=by kernel_rfl
 i5:=by kernel_rfl
 i9:=by kernel_rfl
 i46:=by kernel_rfl
 i53:=by kernel_rfl
 i212:=by kernel_rfl
 m17:=by kernel_rfl}
theorem Tryz.internal_strconv_numDigits (u:Nat) (h1:1≤u) (h2:u < 18446744073709551616) (w:World) (htab:Lib.TabIs Tryz.prog w "internal/strconv.uint64pow10" .u64 Lib.pow10Tab):
  Calls Tryz.prog 161 #[.int .u64 u] w fun e w'=>e=.returned (.int .i64 (Lib.nDigits u))∧w'=w:=Any.internal_strconv_numDigits Tryz.laysM284 u h1 h2 w htab
def Tryz.lays285_ren:Go.Shelf.Ren:=⟨fun | 285=>162 | n=>n,fun | 37=>48 | 53=>187 | 3=>3 | 4=>4 | 51=>199 | 9=>9 | 5=>5 | 0=>0 | n=>n,fun | n=>n⟩
theorem Tryz.lays285:Go.Proofs.Lays.n285 Tryz.prog Tryz.lays285_ren:={
 mixed:=by kernel_rfl
 f285:=Tryz.func162.trans (congrArg some (by kernel_rfl))
 t0:=Tryz.underlying0
 a0:=Tryz.isAgg0
 z0:=Tryz.sizeOf0
 v0:=Tryz.zeroValue0
 t3:=Tryz.underlying3
 a3:=Tryz.isAgg3
 z3:=Tryz.sizeOf3
 v3:=Tryz.zeroValue3
 t4:=Tryz.underlying4
 a4:=Tryz.isAgg4
 z4:=Tryz.sizeOf4
 v4:=Tryz.zeroValue4
 t5:=Tryz.underlying5
 a5:=Tryz.isAgg5
 z5:=Tryz.sizeOf5
 v5:=Tryz.zeroValue5
 t9:=Tryz.underlying9
 a9:=Tryz.isAgg9
 z9:=Tryz.sizeOf9
 v9:=Tryz.zeroValue9
 t37:=Tryz.underlying48
 a37:=Tryz.isAgg48
 z37:=Tryz.sizeOf48
 v37:=Tryz.zeroValue48
 t51:=Tryz.underlying199
 a51:=Tryz.isAgg199
 z51:=Tryz.sizeOf199
 v51:=Tryz.zeroValue199
 t53:=Tryz.underlying187
 a53:=Tryz.isAgg187
 z53:=Tryz.sizeOf187
 v53:=Tryz.zeroValue187}
theorem Tryz.internal_strconv_formatBase10 (blk off cap:Nat) (u:Nat) (d:Array UInt8) (w:World) (hH:Holds (fun (b:UInt8)=>Value.int .u8 (b.toNat:Int)) w blk off d) (hu:u < 10 ^ d.size) (hu64:u < 18446744073709551616) (hsz:d.size < 4611686018427387904):
  Calls Tryz.prog 162 #[.slice (some ⟨blk,off,none⟩) d.size cap,.int .u64 u] w fun e w'=>
   e=.returned (.tuple #[])∧∃(n v':Nat) (dk:Array UInt8),w'=(putRow (fun (b:UInt8)=>Value.int .u8 (b.toNat:Int)) w blk off dk).drewN n∧FmtInv d.size u 0 v' dk:=Any.internal_strconv_formatBase10 Tryz.lays285 blk off cap u d w hH hu hu64 hsz
end Go.Proofs
namespace Go.Proofs.YtlmnjbipfacniaaGreatDoor
open Go.Proofs.Tryz
open Go.RowKit Go.Sort
theorem Lh {w:World} {B:Nat} {v:Value} {l:List UInt8} (h:aZ w B v l) (hB:B≤w.heap.size) (ds:List UInt8) (ad:Addr) (n c:Nat) (hn:ds.length=n) (hc:∀j u,(ds.map bc)[j]? =some u→w.cell? (ad.add j)=some u) (hl:l.length+n≤100000000) (ty:TypeId):
  ∃v' w',(Builtin.append_ #[48,48] ty #[v,.slice (some ad) n c]).run prog w=.ok v' w'∧aZ w' B v' (l++ds)∧Ext w w' v v':=by
 have gB:=xg
 cases hi:prog.info? 5 with
 | none=>simp[hi] at gB
 | some i0=>
  simp only[hi,Option.map_some,uK,nh] at gB;obtain⟨j5,kI,lZ⟩:=gB;obtain⟨v',w',hr,h2,h3, -,h5⟩:=run_append_own_at (P:=prog) w B 48 ty 5 i0 (.int .u8 0) 1 1 underlying48 hi j5 kI lZ rfl (by decide) v l.length (l.map bc) h ad n c (ds.map bc) (by rw[oT];omega) hc (by intro u hu;obtain⟨b, -,rfl⟩:=List.mem_map.1 hu;rfl) (by unfold maxLen;omega) (by omega) hB
  refine⟨v',w',hr, ?_,h3, ?_⟩
  ·unfold aZ
   rw[be,oU,hn];exact h2
  ·rcases h5 with e | e
   ·exact .inl e
   ·exact .inr fun k hk=>by rw[e] at hk;cases hk;exact aw _
theorem Kh {w:World} {ops:Array Oper} {rest:List Oper} {o:Oper} {a:Act} {Q:Exit→Act→World→Prop} (nD:o.guard=none) (sl x:Operand)
  (ho:o.op=.call {callee:=.builtin .append,args:= #[sl,x],argTypes:= #[48,48]})
  (B:Nat) (v:Value) (l ds:List UInt8) (ad:Addr) (n c:Nat) (hs:a.eval sl=v) (hx:a.eval x=.slice (some ad) n c) (h:aZ w B v l) (hB:B≤w.heap.size) (hn:ds.length=n) (hc:∀j u,(ds.map bc)[j]? =some u→w.cell? (ad.add j)=some u) (hl:l.length+n≤100000000)
  (hK:∀v' w',aZ w' B v' (l++ds)→Ext w w' v v'→wpList prog ops Q rest (a.put o.dst v') w'):wpList prog ops Q (o::rest) a w:=by
 refine wpList_plain nD fun K hK'=> ?_
 obtain⟨v',w',hr,h1,h2⟩:=Lh h hB ds ad n c hn hc hl o.type;unfold Oper.wp execOp;simp only[ho,resolve,invoke,builtin,qd,Sem.run_pure,Result.andThen_ok,oh,fM,jM,hs,hx,hr];exact hK' _ _ (hK v' w' h1 h2)
def yk (B:Nat) (w:World) (v:Value) (l ds:List UInt8) (e:Ending) (w':World):Prop:=∃v',e=.returned v'∧aZ w' B v' (l++ds)∧Ext w w' v v'
theorem Im (u:Nat) (hu:u < 100) {w:World} {B:Nat} {v:Value} {l:List UInt8} (h:aZ w B v l) (hB:B≤w.heap.size) (hl:l.length+20≤100000000):
  Calls prog 156 #[v,.int .u64 (u:Int),.int .i64 10] w (yk B w v l (Lib.decDigits u)):=by
 have h1:(u:Int) < 100:=by omega
 have tL:wrap64 (u:Int)=(u:Int):=IntWalk.wrap64_in _ (by omega)
 have hcv2:IntKind.i64.wrap (u:Int)=(u:Int):=(IntWalk.i64_left _).trans tL;have hds:(⟨(Lib.decDigits u).toArray⟩:ByteArray).size≤20:=by
  show (Lib.decDigits u).toArray.size≤20;rw[lJ,Lib.decDigits_length];have:Lib.nDigits u≤20:=by
   rcases Nat.eq_zero_or_pos u with rfl | hp
   ·rw[Lib.nDigits];decide
   ·have:=Lib.numDigits_eq u hp (by omega)
    split at this <;> omega
  exact this
 have HS:=ab (Tryz.internal_strconv_small u hu);have HB:=ab (And.intro h (And.intro hB hds));clear h hB hds;go_enter func156,ntmps156;go_wp2_with (first | (go_at_call 160;refine(aa HS _).mono ?_;rintro e w' ⟨rfl,rfl⟩) | (at_builtin;refine rL rfl _ _ rfl B _ l _ rfl rfl (aa HB).1 (aa HB).2.1 (by have:=(aa HB).2.2;omega) ?_;intro v' w2 hv' he'))
 go_ret;exact⟨_,rfl,hv',he'⟩
theorem Km (u:Nat) (hu:100≤u) (hu2:u≤65536) {w:World} {B:Nat} {v:Value} {l:List UInt8} (h:aZ w B v l) (hB:B≤w.heap.size) (hl:l.length+20≤100000000) (om:Lib.TabIs prog w "internal/strconv.uint64pow10" .u64 Lib.pow10Tab):
  Calls prog 156 #[v,.int .u64 (u:Int),.int .i64 10] w (yk B w v l (Lib.decDigits u)):=by
 have hnd:Lib.nDigits u≤20:=by have:=Lib.numDigits_eq u (by omega) (by omega);split at this <;> omega
 have bp:prog.arrayLen 192=24:=by kernel_rfl
 have hsl:∀W,(Instr.sliceAt 192 (.pointer (some ⟨w.heap.size,0,none⟩)) none (some (.int .i64 (Lib.nDigits u:Int))) none).run prog W=.ok (.slice (some ⟨w.heap.size,0,none⟩) (Lib.nDigits u) 24) W:=fun W=>by
  rw[run_sliceAt_array_h W 192 ⟨w.heap.size,0,none⟩ (by kernel_rfl) .i64 (Lib.nDigits u:Int) (by omega) (by rw[bp];omega)]
  have he:prog.elem 192=5:=by kernel_rfl
  rw[bp,he];go_simp
 have hz:=Lib.holds_zero0 w 192 (Lib.nDigits u) (by omega)
 have hf:=Tryz.internal_strconv_formatBase10 w.heap.size 0 24 u (Array.replicate (Lib.nDigits u) 0) (w.alloc (.cells Lib.zeros24 192)) hz (by rw[Array.size_replicate];exact Lib.lt_pow_nDigits u) (by omega) (by rw[Array.size_replicate];omega)
 rw[Array.size_replicate] at hf;have HZ:=ab hz;have HF:=ab hf;have HD:=ab (Tryz.internal_strconv_numDigits u (by omega) (by omega) (w.alloc (.cells Lib.zeros24 192)) (Lib.tabIs_alloc om _))
 have HB:=ab (And.intro h (And.intro hB hl));have h1:¬(u:Int) < 100:=by omega
 clear hz hf h hB hl om bp;go_enter func156,ntmps156;go_wp2_with (first | (go_at_call 161;refine(aa HD).mono ?_;rintro e w' ⟨rfl,rfl⟩));go_at_call 162;refine(aa HF).mono ?_;rintro e w' ⟨rfl,k,v',dk,rfl,hF⟩;have yI:∀j x,((Lib.decDigits u).map bc)[j]? =some x→((putRow (fun (b:UInt8)=>Value.int .u8 (b.toNat:Int)) (w.alloc (.cells Lib.zeros24 192)) w.heap.size 0 dk).drewN k).cell? ((⟨w.heap.size,0,none⟩:Addr).add j)=some x:=fun j x hj=>by
  have ss:j < (Lib.decDigits u).length:=by have:=(mG.1 hj).1;rwa [oT] at this
  rw[qb,gT ss] at hj;rw[←lK hj,Lib.add_plain,World.cell?_drewN];show _=some (Value.int .u8 ((Lib.decDigits u)[j].toNat:Int));rw[Lib.row_is_numeral hF j ss];exact cell?_putRow (fun (b:UInt8)=>Value.int .u8 (b.toNat:Int)) _ w.heap.size 0 _ dk (aa HZ) (by rw[hF.size,Array.size_replicate]) j (by rw[hF.size];rw[Lib.decDigits_length] at ss;exact ss)
 obtain⟨os,eo⟩:=Lib.fin_at w (.cells Lib.zeros24 192) dk k 0;have bz:Below w.heap.size w ((putRow (fun (b:UInt8)=>Value.int .u8 (b.toNat:Int)) (w.alloc (.cells Lib.zeros24 192)) w.heap.size 0 dk).drewN k):=by rw[eo];exact Lib.below_grow w.heap.size w (aw _) k os
 generalize (putRow (fun (b:UInt8)=>Value.int .u8 (b.toNat:Int)) (w.alloc (.cells Lib.zeros24 192)) w.heap.size 0 dk).drewN k=W2 at yI bz ⊢
 have HC:=ab yI;have HL:=ab bz;have HN:=ab hnd;clear yI bz eo hF HF HZ HD hnd;go_wp2_with (at_builtin;refine Kh rfl _ _ rfl B _ l (Lib.decDigits u) ⟨w.heap.size,0,none⟩ (Lib.nDigits u) 24 rfl rfl ((aa HB).1.later (aa HL)) (bv (aa HB).2.1 (aa HL).size) (Lib.decDigits_length u) (aa HC) (by have:=(aa HB).2.2;have:=aa HN;omega) ?_;intro v2 w3 hv2 he2)
 go_ret;exact⟨_,rfl,hv2,(Ext.below v (aa HL)).trans he2⟩
theorem Kn (u:Nat) (hu:u≤65536) {w:World} {B:Nat} {v:Value} {l:List UInt8} (h:aZ w B v l) (hB:B≤w.heap.size) (hl:l.length+20≤100000000) (om:Lib.TabIs prog w "internal/strconv.uint64pow10" .u64 Lib.pow10Tab):
  Calls prog 156 #[v,.int .u64 (u:Int),.int .i64 10] w (yk B w v l (Lib.decDigits u)):=by
 rcases cG u 100 with q | q
 ·exact Im u q h hB hl
 ·exact Km u q hu h hB hl om
theorem MT (u:Nat) (hu:u≤65536) {w:World} {B:Nat} {v:Value} {l:List UInt8} (h:aZ w B v l) (hB:B≤w.heap.size) (hl:l.length+20≤100000000) (om:Lib.TabIs prog w "internal/strconv.uint64pow10" .u64 Lib.pow10Tab):
  Calls prog 142 #[v,.int .i64 (u:Int),.int .i64 10] w (yk B w v l (Lib.decDigits u)):=by
 have HU:=ab (Kn u hu h hB hl om);have h1:¬(u:Int) < 0:=by omega
 have tL:IntKind.u64.wrap (u:Int)=(u:Int):=by
  have e:IntKind.u64.bits=64:=rfl;have s:IntKind.u64.signed=false:=rfl;unfold IntKind.wrap;simp only[e,s];simp;omega
 clear h hB hl om;go_enter func142,ntmps142;go_wp2_with fail;refine(aa HU).mono ?_;rintro e w2 ⟨v',rfl,hv',he'⟩;go_wp2_with fail;go_ret;exact⟨_,rfl,hv',he'⟩
theorem G0 (u:Nat) (hu:u≤65536) {w:World} {B:Nat} {v:Value} {l:List UInt8} (h:aZ w B v l) (hB:B≤w.heap.size) (hl:l.length+20≤100000000) (om:Lib.TabIs prog w "internal/strconv.uint64pow10" .u64 Lib.pow10Tab):
  Calls prog 124 #[v,.int .i64 (u:Int),.int .i64 10] w (yk B w v l (Lib.decDigits u)):=by
 have HU:=ab (MT u hu h hB hl om);clear h hB hl om;go_enter func124,ntmps124;go_wp2_with fail;refine(aa HU).mono ?_;rintro e w2 ⟨v',rfl,hv',he'⟩;go_wp2_with fail;go_ret;exact⟨_,rfl,hv',he'⟩
open Go.RowKit
theorem wj {P:Program} {Q:Exit→Act→World→Prop} {o:Oper} {a:Act} {w:World} {K:Act→World→Prop} {ty:TypeId} {x:Operand} {f g off:Nat} (ho:o.op=.fieldAddr ty x f) (hx:a.eval x=.pointer (some ⟨g,0,none⟩)) (hr:(Instr.fieldAt ty (.pointer (some ⟨g,0,none⟩)) f).run P w=.ok (.pointer (some ⟨g,off,none⟩)) w) (h:K (a.put o.dst (.pointer (some ⟨g,off,none⟩))) w):o.wp P a w K Q:=by
 unfold Oper.wp execOp;simp only[ho,hx,qd,hr,Result.andThen_ok];exact h
theorem rU {P:Program} {Q:Exit→Act→World→Prop} {o:Oper} {a:Act} {w:World} {K:Act→World→Prop} {ty:TypeId} {x:Operand} {p v:Value} (ho:o.op=.load ty x) (hx:a.eval x=p) (hr:(Instr.loadAt ty p).run P w=.ok v w) (h:K (a.put o.dst v) w):o.wp P a w K Q:=by
 unfold Oper.wp execOp;simp only[ho,hx,qd,hr,Result.andThen_ok];exact h
theorem wp_ix {P:Program} {Q:Exit→Act→World→Prop} {o:Oper} {a:Act} {w:World} {K:Act→World→Prop} {ty:TypeId} {x i:Operand} {p v:Value} {k:Value} (ho:o.op=.indexAddr ty x i) (hx:a.eval x=p) (hr:(Instr.indexAt ty p k).run P w=.ok v w) (h:K (a.put o.dst v) w) (hi:a.eval i=k:=by rfl):o.wp P a w K Q:=by
 unfold Oper.wp execOp;simp only[ho,hx,hi,qd,hr,Result.andThen_ok];exact h
theorem qlen {t:ByteArray}:(fI t).data.toList.length=(fI t).size:=by simp
structure NumF (B:Nat) (w0:World) (v:Value) (r:List UInt8) (bx u:Nat) (M:List UInt8→Prop) (L:Array Bool) (x:Nat→Value) (w:World) (cur:Value) (l:List UInt8):Prop where
 size:L.size=9
 f0:Up L 0→x 18=v
 f1:Up L 1→fY w cur 40 (x 19)
 f3:Up L 3→x 21=.pointer (some ⟨bx,2,none⟩)
 f4:Up L 4→x 22=.int .i64 (u:Int)
 f6:Up L 6→fY w cur 41 (x 24)
 st:(¬Up L 2∧¬Up L 5∧¬Up L 7∧cur=v∧l=r)∨(Up L 2∧¬Up L 5∧¬Up L 7∧x 20=cur∧(fun l=>l=r++[40]) l)∨(Up L 5∧¬Up L 7∧x 23=cur∧(M) l)∨(Up L 7∧x 25=cur∧(fun l=>∃l0,M l0∧l=l0++[41]) l)
 fz:Up L 8→x 4=x 25
 chn:Chn B w0 v w cur l
theorem ID {ops:Array Oper} {id:Nat} {Q:Exit→Act→World→Prop} {a:Act} {w:World} {v:Value} {r:List UInt8} {B:Nat} {bx:Nat} {row:Obj} {u:Nat} {M:List UInt8→Prop}
  (p0:cj ops 0 (.move (.tmp 0)) 18 [])
  (p1:cj ops 1 (.buildSlice 48 1 #[(0,.const (.int .u8 40))]) 19 [])
  (p2:cj ops 2 (.call {callee:=.builtin .append,args:= #[.tmp 18,.tmp 19],argTypes:= #[48,48]}) 20 [0,1])
  (p3:cj ops 3 (.fieldAddr 27 (.tmp 3) 2) 21 [])
  (p4:cj ops 4 (.load 3 (.tmp 21)) 22 [3])
  (p5:cj ops 5 (.call {callee:=.value (.func 124),args:= #[.tmp 20,.tmp 22,.const (.int .i64 10)],argTypes:= #[48,2,3]}) 23 [2,4])
  (p6:cj ops 6 (.buildSlice 48 1 #[(0,.const (.int .u8 41))]) 24 [])
  (p7:cj ops 7 (.call {callee:=.builtin .append,args:= #[.tmp 23,.tmp 24],argTypes:= #[48,48]}) 25 [5,6])
  (p8:cj ops 8 (.assign (.tmp 25)) 4 [0,1,2,3,4,5,6,7])
  (hn:ops.size=9) (ay:a.tmps.size=54) (h0:a.eval (.tmp 0)=v) (hv:aZ w B v r) (hB:B≤w.heap.size)
  (hr:r.length+140000≤100000000) (h3:a.eval (.tmp 3)=.pointer (some ⟨bx,0,none⟩)) (am:w.heap[bx]? =some row) (lY:some bx≠v.ownBlock) (pd:∀W,(Instr.fieldAt 27 (.pointer (some ⟨bx,0,none⟩)) 2).run prog W=.ok (.pointer (some ⟨bx,2,none⟩)) W) (oZ:∀W:World,W.heap[bx]? =some row→(Instr.loadAt 3 (.pointer (some ⟨bx,2,none⟩))).run prog W=.ok (.int .i64 (u:Int)) W) (hM:∀l,M l→l.length+1≤100000000)
  (hC:∀w1 v1,aZ w1 B v1 (r++[40])→Ext w w1 v v1→Calls prog 124 #[v1,.int .i64 (u:Int),.int .i64 10] w1 fun e w2=>∃v2,e=.returned v2∧∃r2,aZ w2 B v2 r2∧Ext w1 w2 v1 v2∧M r2)
  (hQ:∀x w2 v2 l2,aZ w2 B v2 l2→(fun l=>∃l0,M l0∧l=l0++[41]) l2→Ext w w2 v v2→x 4=v2→Q .normal (fl a [18,19,20,21,22,23,24,25,4] x) w2):(Code.region id ops true).wp prog Q a w:=by
 refine ud (I:=fun L a' w'=>∃x cur l,a'=fl a [18,19,20,21,22,23,24,25,4] x∧NumF B w v r bx u M L x w' cur l) rfl ?_ ?_ ?_
 ·have hd:Below w.heap.size w w.drew:=(aV _ _).drew
  exact⟨fun d=>a.eval (.tmp d),v,r,(sW _ a).symm,by rw[hn];rfl,fun h=>absurd h cz,fun h=>absurd h cz,fun h=>absurd h cz,fun h=>absurd h cz,fun h=>absurd h cz,.inl ⟨cz,cz,cz,rfl,rfl⟩,fun h=>absurd h cz,hv.later hd,Ext.below v hd⟩
 ·rintro L a' w' i ⟨x,cur,l,rfl,H⟩ hsh hi
  have hs:=H.size;have au:i < 9:=by
   obtain⟨-,o,ho, -⟩:=ol.1 hi;have:=(bC.1 ho).1;omega
  have ag:i < L.size:=by rw[hs];exact au
  have hS:(L.setIfInBounds i true).size=9:=by simp[hs]
  have cw:B≤w'.heap.size:=bv hB H.chn.ext.grown.size;rcases (show i=0∨i=1∨i=2∨i=3∨i=4∨i=5∨i=6∨i=7∨i=8 by omega) with rfl | rfl | rfl | rfl | rfl | rfl | rfl | rfl | rfl
  ·obtain⟨hu,hd⟩:=cD p0 hi
   refine cF p0 fun o ho aM=>ux ho ?_
   refine⟨bS x 18 v,cur,l,by rw[aM,(kV [18,19,20,21,22,23,24,25,4] a x (t:=0) (by decide)),h0,lB _ _ _ _ _ (by decide) (by decide)],hS,fun _=>cy _ _ _,us ag H.f1,uk ag H.f3,uk ag H.f4,us ag H.f6, ?_,uz ag H.fz,H.chn⟩
   ·simpa only[bR ag,(nd:¬2=0),(nd:¬5=0),(nd:¬7=0),eh,uo x 20 18,uo x 23 18,uo x 25 18] using H.st
  ·obtain⟨hu,hd⟩:=cD p1 hi
   refine cF p1 fun o ho aM=>rM 40 ho ?_
   have hb:Below w'.heap.size w' (w'.alloc (.cells #[.int .u8 (((40:UInt8).toNat:Nat):Int)] 5)):=ba _;refine⟨bS x 19 (.slice (some ⟨w'.heap.size,0,none⟩) 1 1),cur,l,fp aM,hS,uk ag H.f0,fun _=>by rw[cy];exact fY.new H.chn.row 40,uk ag H.f3,uk ag H.f4,fun h=>(ut ag H.f6 h).below hb, ?_,uz ag H.fz,H.chn.below hb⟩
   ·simpa only[bR ag,(nd:¬2=1),(nd:¬5=1),(nd:¬7=1),eh,uo x 20 19,uo x 23 19,uo x 25 19] using H.st
  ·obtain⟨hu,hd⟩:=cD p2 hi
   rcases H.st with ⟨s2,s5,s7,rfl,rfl⟩ | ⟨s2, -⟩ | ⟨s5, -⟩ | ⟨s7, -⟩
   ·obtain⟨g,hg,aS,tI⟩:=H.f1 (hd 1 (by decide))
    refine cF p2 fun o ho aM=>rN (.tmp 18) (.tmp 19) ho (fe ay (H.f0 (hd 0 (by decide)))) (fe ay (hg)) H.chn.row aS cw (by omega) ?_
    intro v' w2 hb2 he2;refine⟨bS x 20 v',v',_,fp aM,hS,uk ag H.f0,fun h=>(ut ag H.f1 h).next he2,uk ag H.f3,uk ag H.f4,fun h=>(ut ag H.f6 h).next he2,.inr (.inl ⟨(bR ag).2 (.inl rfl),fun h=>s5 (gz ag h),fun h=>s7 (gz ag h),cy _ _ _,rfl⟩),uz ag H.fz,H.chn.next hb2 he2⟩
   ·exact absurd s2 hu
   ·exact absurd (fv p5 hsh s5 2 (by decide)) hu
   ·exact absurd (fv p5 hsh (fv p7 hsh s7 5 (by decide)) 2 (by decide)) hu
  ·obtain⟨hu,hd⟩:=cD p3 hi
   refine cF p3 fun o ho aM=>wj ho (by rw[(kV [18,19,20,21,22,23,24,25,4] a x (t:=3) (by decide))];exact h3) (pd w') ?_
   refine⟨bS x 21 (.pointer (some ⟨bx,2,none⟩)),cur,l,fp aM,hS,uk ag H.f0,us ag H.f1,fun _=>cy _ _ _,uk ag H.f4,us ag H.f6, ?_,uz ag H.fz,H.chn⟩
   ·simpa only[bR ag,(nd:¬2=3),(nd:¬5=3),(nd:¬7=3),eh,uo x 20 21,uo x 23 21,uo x 25 21] using H.st
  ·obtain⟨hu,hd⟩:=cD p4 hi
   refine cF p4 fun o ho aM=>rU ho (fe ay (H.f3 (hd 3 (by decide)))) (oZ w' (H.chn.ext.row lY am)) ?_
   refine⟨bS x 22 (.int .i64 (u:Int)),cur,l,fp aM,hS,uk ag H.f0,us ag H.f1,uk ag H.f3,fun _=>cy _ _ _,us ag H.f6, ?_,uz ag H.fz,H.chn⟩
   ·simpa only[bR ag,(nd:¬2=4),(nd:¬5=4),(nd:¬7=4),eh,uo x 20 22,uo x 23 22,uo x 25 22] using H.st
  ·obtain⟨hu,hd⟩:=cD p5 hi
   rcases H.st with ⟨s2, -⟩ | ⟨s2,s5,s7,hx,hl⟩ | ⟨s5, -⟩ | ⟨s7, -⟩
   ·exact absurd (hd 2 (by decide)) s2
   ·refine cF p5 fun o ho aM=>xr ho func124 rfl rfl #[cur,.int .i64 (u:Int),.int .i64 10] (by simp only[oh,fM,jM];rw[(jI [18,19,20,21,22,23,24,25,4] a x (d:=20) (by decide) (by decide) (by rw[ay];decide)),(jI [18,19,20,21,22,23,24,25,4] a x (d:=22) (by decide) (by decide) (by rw[ay];decide)),hx,H.f4 (hd 4 (by decide))];rfl) ((hC w' cur (hl▸H.chn.row) H.chn.ext).mono ?_)
    rintro e w2 ⟨v2,rfl,r2,hb2,he2,oY⟩;refine⟨v2,rfl,bS x 23 v2,v2,r2,fp aM,hS,uk ag H.f0,fun h=>(ut ag H.f1 h).next he2,uk ag H.f3,uk ag H.f4,fun h=>(ut ag H.f6 h).next he2,.inr (.inr (.inl ⟨(bR ag).2 (.inl rfl),fun h=>s7 (gz ag h),cy _ _ _,oY⟩)),uz ag H.fz,H.chn.next hb2 he2⟩
   ·exact absurd s5 hu
   ·exact absurd (fv p7 hsh s7 5 (by decide)) hu
  ·obtain⟨hu,hd⟩:=cD p6 hi
   refine cF p6 fun o ho aM=>rM 41 ho ?_
   have hb:Below w'.heap.size w' (w'.alloc (.cells #[.int .u8 (((41:UInt8).toNat:Nat):Int)] 5)):=ba _;refine⟨bS x 24 (.slice (some ⟨w'.heap.size,0,none⟩) 1 1),cur,l,fp aM,hS,uk ag H.f0,fun h=>(ut ag H.f1 h).below hb,uk ag H.f3,uk ag H.f4,fun _=>by rw[cy];exact fY.new H.chn.row 41, ?_,uz ag H.fz,H.chn.below hb⟩
   ·simpa only[bR ag,(nd:¬2=6),(nd:¬5=6),(nd:¬7=6),eh,uo x 20 24,uo x 23 24,uo x 25 24] using H.st
  ·obtain⟨hu,hd⟩:=cD p7 hi
   rcases H.st with ⟨-,s5, -⟩ | ⟨-,s5, -⟩ | ⟨s5,s7,hx,hl⟩ | ⟨s7, -⟩
   ·exact absurd (hd 5 (by decide)) s5
   ·exact absurd (hd 5 (by decide)) s5
   ·obtain⟨g,hg,aS,tI⟩:=H.f6 (hd 6 (by decide))
    refine cF p7 fun o ho aM=>rN (.tmp 23) (.tmp 24) ho (fe ay (hx)) (fe ay (hg)) H.chn.row aS cw (hM l hl) ?_
    intro v' w2 hb2 he2;refine⟨bS x 25 v',v',_,fp aM,hS,uk ag H.f0,fun h=>(ut ag H.f1 h).next he2,uk ag H.f3,uk ag H.f4,fun h=>(ut ag H.f6 h).next he2,.inr (.inr (.inr (⟨(bR ag).2 (.inl rfl),cy _ _ _,⟨l,hl,rfl⟩⟩))),fun h=>absurd (fv p8 hsh (gz ag h) 7 (by decide)) hu,H.chn.next hb2 he2⟩
   ·exact absurd s7 hu
  ·obtain⟨hu,hd⟩:=cD p8 hi
   refine cF p8 fun o ho aM=>uy ho ?_
   refine⟨bS x 4 (x 25),cur,l,by rw[aM,(jI [18,19,20,21,22,23,24,25,4] a x (d:=25) (by decide) (by decide) (by rw[ay];decide)),lB _ _ _ _ _ (by decide) (by decide)],hS,uk ag H.f0,us ag H.f1,uk ag H.f3,uk ag H.f4,us ag H.f6, ?_,fun _=>by rw[cy,jV (by decide)],H.chn⟩
   ·simpa only[bR ag,(nd:¬2=8),(nd:¬5=8),(nd:¬7=8),eh,uo x 20 4,uo x 23 4,uo x 25 4] using H.st
 ·rintro L a' w' ⟨x,cur,l,rfl,H⟩ cf
  have hs:=H.size;have u0:=cE p0 cf (by omega) (by simp)
  have u1:=cE p1 cf (by omega) (by simp)
  have u2:=cE p2 cf (by omega) (mc u0 (mc u1 mn))
  have u3:=cE p3 cf (by omega) (by simp)
  have u4:=cE p4 cf (by omega) (mc u3 mn)
  have u5:=cE p5 cf (by omega) (mc u2 (mc u4 mn))
  have u6:=cE p6 cf (by omega) (by simp)
  have u7:=cE p7 cf (by omega) (mc u5 (mc u6 mn))
  have u8:=cE p8 cf (by omega) (mc u0 (mc u1 (mc u2 (mc u3 (mc u4 (mc u5 (mc u6 (mc u7 mn))))))))
  rcases H.st with ⟨-, -,sz, -⟩ | ⟨-, -,sz, -⟩ | ⟨-,sz, -⟩ | ⟨-,hx,hl⟩
  ·exact absurd u7 sz
  ·exact absurd u7 sz
  ·exact absurd u7 sz
  ·exact hQ x w' cur l H.chn.row hl H.chn.ext ((H.fz u8).trans hx)
structure ArbF (B:Nat) (w0:World) (v:Value) (r:List UInt8) (bx:Nat) (kids kp kid:Value) (M:List UInt8→Prop) (L:Array Bool) (x:Nat→Value) (w:World) (cur:Value) (l:List UInt8):Prop where
 size:L.size=11
 f0:Up L 0→x 43=v
 f1:Up L 1→fY w cur 40 (x 44)
 f3:Up L 3→x 46=.pointer (some ⟨bx,4,none⟩)
 f4:Up L 4→x 47=kids
 f5:Up L 5→x 48=kp
 f6:Up L 6→x 49=kid
 f8:Up L 8→fY w cur 41 (x 51)
 st:(¬Up L 2∧¬Up L 7∧¬Up L 9∧cur=v∧l=r)∨(Up L 2∧¬Up L 7∧¬Up L 9∧x 45=cur∧(fun l=>l=r++[40]) l)∨(Up L 7∧¬Up L 9∧x 50=cur∧(M) l)∨(Up L 9∧x 52=cur∧(fun l=>∃l0,M l0∧l=l0++[41]) l)
 fz:Up L 10→x 4=x 52
 chn:Chn B w0 v w cur l
theorem Jc {ops:Array Oper} {id:Nat} {Q:Exit→Act→World→Prop} {a:Act} {w:World} {v:Value} {r:List UInt8} {B:Nat} {bx:Nat} {row:Obj} {kids kp kid:Value} {M:List UInt8→Prop}
  (p0:cj ops 0 (.move (.tmp 0)) 43 [])
  (p1:cj ops 1 (.buildSlice 48 1 #[(0,.const (.int .u8 40))]) 44 [])
  (p2:cj ops 2 (.call {callee:=.builtin .append,args:= #[.tmp 43,.tmp 44],argTypes:= #[48,48]}) 45 [0,1])
  (p3:cj ops 3 (.fieldAddr 27 (.tmp 3) 4) 46 [])
  (p4:cj ops 4 (.load 25 (.tmp 46)) 47 [3])
  (p5:cj ops 5 (.indexAddr 25 (.tmp 47) (.const (.int .i64 0))) 48 [4])
  (p6:cj ops 6 (.load 27 (.tmp 48)) 49 [5])
  (p7:cj ops 7 (.call {callee:=.value (.func 41),args:= #[.tmp 45,.tmp 49],argTypes:= #[48,27]}) 50 [2,6])
  (p8:cj ops 8 (.buildSlice 48 1 #[(0,.const (.int .u8 41))]) 51 [])
  (p9:cj ops 9 (.call {callee:=.builtin .append,args:= #[.tmp 50,.tmp 51],argTypes:= #[48,48]}) 52 [7,8])
  (p10:cj ops 10 (.assign (.tmp 52)) 4 [0,1,2,3,4,5,6,7,8,9])
  (hn:ops.size=11) (ay:a.tmps.size=54) (h0:a.eval (.tmp 0)=v) (hv:aZ w B v r) (hB:B≤w.heap.size)
  (hr:r.length+140000≤100000000) (h3:a.eval (.tmp 3)=.pointer (some ⟨bx,0,none⟩)) (am:w.heap[bx]? =some row) (lY:some bx≠v.ownBlock) (pd:∀W,(Instr.fieldAt 27 (.pointer (some ⟨bx,0,none⟩)) 4).run prog W=.ok (.pointer (some ⟨bx,4,none⟩)) W) (oZ:∀W:World,W.heap[bx]? =some row→(Instr.loadAt 25 (.pointer (some ⟨bx,4,none⟩))).run prog W=.ok kids W) (jA:∀W,(Instr.indexAt 25 kids (.int .i64 0)).run prog W=.ok kp W) (hkd:∀(W:World) {c:Value},Ext w W v c→(Instr.loadAt 27 kp).run prog W=.ok kid W) (hM:∀l,M l→l.length+1≤100000000)
  (hC:∀w1 v1,aZ w1 B v1 (r++[40])→Ext w w1 v v1→Calls prog 41 #[v1,kid] w1 fun e w2=>∃v2,e=.returned v2∧∃r2,aZ w2 B v2 r2∧Ext w1 w2 v1 v2∧M r2)
  (hQ:∀x w2 v2 l2,aZ w2 B v2 l2→(fun l=>∃l0,M l0∧l=l0++[41]) l2→Ext w w2 v v2→x 4=v2→Q .normal (fl a [43,44,45,46,47,48,49,50,51,52,4] x) w2):(Code.region id ops true).wp prog Q a w:=by
 refine ud (I:=fun L a' w'=>∃x cur l,a'=fl a [43,44,45,46,47,48,49,50,51,52,4] x∧ArbF B w v r bx kids kp kid M L x w' cur l) rfl ?_ ?_ ?_
 ·have hd:Below w.heap.size w w.drew:=(aV _ _).drew
  exact⟨fun d=>a.eval (.tmp d),v,r,(sW _ a).symm,by rw[hn];rfl,fun h=>absurd h cz,fun h=>absurd h cz,fun h=>absurd h cz,fun h=>absurd h cz,fun h=>absurd h cz,fun h=>absurd h cz,fun h=>absurd h cz,.inl ⟨cz,cz,cz,rfl,rfl⟩,fun h=>absurd h cz,hv.later hd,Ext.below v hd⟩
 ·rintro L a' w' i ⟨x,cur,l,rfl,H⟩ hsh hi
  have hs:=H.size;have au:i < 11:=by
   obtain⟨-,o,ho, -⟩:=ol.1 hi;have:=(bC.1 ho).1;omega
  have ag:i < L.size:=by rw[hs];exact au
  have hS:(L.setIfInBounds i true).size=11:=by simp[hs]
  have cw:B≤w'.heap.size:=bv hB H.chn.ext.grown.size;rcases (show i=0∨i=1∨i=2∨i=3∨i=4∨i=5∨i=6∨i=7∨i=8∨i=9∨i=10 by omega) with rfl | rfl | rfl | rfl | rfl | rfl | rfl | rfl | rfl | rfl | rfl
  ·obtain⟨hu,hd⟩:=cD p0 hi
   refine cF p0 fun o ho aM=>ux ho ?_
   refine⟨bS x 43 v,cur,l,by rw[aM,(kV [43,44,45,46,47,48,49,50,51,52,4] a x (t:=0) (by decide)),h0,lB _ _ _ _ _ (by decide) (by decide)],hS,fun _=>cy _ _ _,us ag H.f1,uk ag H.f3,uk ag H.f4,uk ag H.f5,uk ag H.f6,us ag H.f8, ?_,uz ag H.fz,H.chn⟩
   ·simpa only[bR ag,(nd:¬2=0),(nd:¬7=0),(nd:¬9=0),eh,uo x 45 43,uo x 50 43,uo x 52 43] using H.st
  ·obtain⟨hu,hd⟩:=cD p1 hi
   refine cF p1 fun o ho aM=>rM 40 ho ?_
   have hb:Below w'.heap.size w' (w'.alloc (.cells #[.int .u8 (((40:UInt8).toNat:Nat):Int)] 5)):=ba _;refine⟨bS x 44 (.slice (some ⟨w'.heap.size,0,none⟩) 1 1),cur,l,fp aM,hS,uk ag H.f0,fun _=>by rw[cy];exact fY.new H.chn.row 40,uk ag H.f3,uk ag H.f4,uk ag H.f5,uk ag H.f6,fun h=>(ut ag H.f8 h).below hb, ?_,uz ag H.fz,H.chn.below hb⟩
   ·simpa only[bR ag,(nd:¬2=1),(nd:¬7=1),(nd:¬9=1),eh,uo x 45 44,uo x 50 44,uo x 52 44] using H.st
  ·obtain⟨hu,hd⟩:=cD p2 hi
   rcases H.st with ⟨s2,s7,s9,rfl,rfl⟩ | ⟨s2, -⟩ | ⟨s7, -⟩ | ⟨s9, -⟩
   ·obtain⟨g,hg,aS,tI⟩:=H.f1 (hd 1 (by decide))
    refine cF p2 fun o ho aM=>rN (.tmp 43) (.tmp 44) ho (fe ay (H.f0 (hd 0 (by decide)))) (fe ay (hg)) H.chn.row aS cw (by omega) ?_
    intro v' w2 hb2 he2;refine⟨bS x 45 v',v',_,fp aM,hS,uk ag H.f0,fun h=>(ut ag H.f1 h).next he2,uk ag H.f3,uk ag H.f4,uk ag H.f5,uk ag H.f6,fun h=>(ut ag H.f8 h).next he2,.inr (.inl ⟨(bR ag).2 (.inl rfl),fun h=>s7 (gz ag h),fun h=>s9 (gz ag h),cy _ _ _,rfl⟩),uz ag H.fz,H.chn.next hb2 he2⟩
   ·exact absurd s2 hu
   ·exact absurd (fv p7 hsh s7 2 (by decide)) hu
   ·exact absurd (fv p7 hsh (fv p9 hsh s9 7 (by decide)) 2 (by decide)) hu
  ·obtain⟨hu,hd⟩:=cD p3 hi
   refine cF p3 fun o ho aM=>wj ho (by rw[(kV [43,44,45,46,47,48,49,50,51,52,4] a x (t:=3) (by decide))];exact h3) (pd w') ?_
   refine⟨bS x 46 (.pointer (some ⟨bx,4,none⟩)),cur,l,fp aM,hS,uk ag H.f0,us ag H.f1,fun _=>cy _ _ _,uk ag H.f4,uk ag H.f5,uk ag H.f6,us ag H.f8, ?_,uz ag H.fz,H.chn⟩
   ·simpa only[bR ag,(nd:¬2=3),(nd:¬7=3),(nd:¬9=3),eh,uo x 45 46,uo x 50 46,uo x 52 46] using H.st
  ·obtain⟨hu,hd⟩:=cD p4 hi
   refine cF p4 fun o ho aM=>rU ho (fe ay (H.f3 (hd 3 (by decide)))) (oZ w' (H.chn.ext.row lY am)) ?_
   refine⟨bS x 47 (kids),cur,l,fp aM,hS,uk ag H.f0,us ag H.f1,uk ag H.f3,fun _=>cy _ _ _,uk ag H.f5,uk ag H.f6,us ag H.f8, ?_,uz ag H.fz,H.chn⟩
   ·simpa only[bR ag,(nd:¬2=4),(nd:¬7=4),(nd:¬9=4),eh,uo x 45 47,uo x 50 47,uo x 52 47] using H.st
  ·obtain⟨hu,hd⟩:=cD p5 hi
   refine cF p5 fun o ho aM=>wp_ix ho (fe ay (H.f4 (hd 4 (by decide)))) (jA w') ?_
   refine⟨bS x 48 (kp),cur,l,fp aM,hS,uk ag H.f0,us ag H.f1,uk ag H.f3,uk ag H.f4,fun _=>cy _ _ _,uk ag H.f6,us ag H.f8, ?_,uz ag H.fz,H.chn⟩
   ·simpa only[bR ag,(nd:¬2=5),(nd:¬7=5),(nd:¬9=5),eh,uo x 45 48,uo x 50 48,uo x 52 48] using H.st
  ·obtain⟨hu,hd⟩:=cD p6 hi
   refine cF p6 fun o ho aM=>rU ho (fe ay (H.f5 (hd 5 (by decide)))) (hkd w' H.chn.ext) ?_
   refine⟨bS x 49 (kid),cur,l,fp aM,hS,uk ag H.f0,us ag H.f1,uk ag H.f3,uk ag H.f4,uk ag H.f5,fun _=>cy _ _ _,us ag H.f8, ?_,uz ag H.fz,H.chn⟩
   ·simpa only[bR ag,(nd:¬2=6),(nd:¬7=6),(nd:¬9=6),eh,uo x 45 49,uo x 50 49,uo x 52 49] using H.st
  ·obtain⟨hu,hd⟩:=cD p7 hi
   rcases H.st with ⟨s2, -⟩ | ⟨s2,s7,s9,hx,hl⟩ | ⟨s7, -⟩ | ⟨s9, -⟩
   ·exact absurd (hd 2 (by decide)) s2
   ·refine cF p7 fun o ho aM=>xr ho func41 rfl rfl #[cur,kid] (by simp only[oh,fM,jM];rw[(jI [43,44,45,46,47,48,49,50,51,52,4] a x (d:=45) (by decide) (by decide) (by rw[ay];decide)),(jI [43,44,45,46,47,48,49,50,51,52,4] a x (d:=49) (by decide) (by decide) (by rw[ay];decide)),hx,H.f6 (hd 6 (by decide))]) ((hC w' cur (hl▸H.chn.row) H.chn.ext).mono ?_)
    rintro e w2 ⟨v2,rfl,r2,hb2,he2,oY⟩;refine⟨v2,rfl,bS x 50 v2,v2,r2,fp aM,hS,uk ag H.f0,fun h=>(ut ag H.f1 h).next he2,uk ag H.f3,uk ag H.f4,uk ag H.f5,uk ag H.f6,fun h=>(ut ag H.f8 h).next he2,.inr (.inr (.inl ⟨(bR ag).2 (.inl rfl),fun h=>s9 (gz ag h),cy _ _ _,oY⟩)),uz ag H.fz,H.chn.next hb2 he2⟩
   ·exact absurd s7 hu
   ·exact absurd (fv p9 hsh s9 7 (by decide)) hu
  ·obtain⟨hu,hd⟩:=cD p8 hi
   refine cF p8 fun o ho aM=>rM 41 ho ?_
   have hb:Below w'.heap.size w' (w'.alloc (.cells #[.int .u8 (((41:UInt8).toNat:Nat):Int)] 5)):=ba _;refine⟨bS x 51 (.slice (some ⟨w'.heap.size,0,none⟩) 1 1),cur,l,fp aM,hS,uk ag H.f0,fun h=>(ut ag H.f1 h).below hb,uk ag H.f3,uk ag H.f4,uk ag H.f5,uk ag H.f6,fun _=>by rw[cy];exact fY.new H.chn.row 41, ?_,uz ag H.fz,H.chn.below hb⟩
   ·simpa only[bR ag,(nd:¬2=8),(nd:¬7=8),(nd:¬9=8),eh,uo x 45 51,uo x 50 51,uo x 52 51] using H.st
  ·obtain⟨hu,hd⟩:=cD p9 hi
   rcases H.st with ⟨-,s7, -⟩ | ⟨-,s7, -⟩ | ⟨s7,s9,hx,hl⟩ | ⟨s9, -⟩
   ·exact absurd (hd 7 (by decide)) s7
   ·exact absurd (hd 7 (by decide)) s7
   ·obtain⟨g,hg,aS,tI⟩:=H.f8 (hd 8 (by decide))
    refine cF p9 fun o ho aM=>rN (.tmp 50) (.tmp 51) ho (fe ay (hx)) (fe ay (hg)) H.chn.row aS cw (hM l hl) ?_
    intro v' w2 hb2 he2;refine⟨bS x 52 v',v',_,fp aM,hS,uk ag H.f0,fun h=>(ut ag H.f1 h).next he2,uk ag H.f3,uk ag H.f4,uk ag H.f5,uk ag H.f6,fun h=>(ut ag H.f8 h).next he2,.inr (.inr (.inr (⟨(bR ag).2 (.inl rfl),cy _ _ _,⟨l,hl,rfl⟩⟩))),fun h=>absurd (fv p10 hsh (gz ag h) 9 (by decide)) hu,H.chn.next hb2 he2⟩
   ·exact absurd s9 hu
  ·obtain⟨hu,hd⟩:=cD p10 hi
   refine cF p10 fun o ho aM=>uy ho ?_
   refine⟨bS x 4 (x 52),cur,l,by rw[aM,(jI [43,44,45,46,47,48,49,50,51,52,4] a x (d:=52) (by decide) (by decide) (by rw[ay];decide)),lB _ _ _ _ _ (by decide) (by decide)],hS,uk ag H.f0,us ag H.f1,uk ag H.f3,uk ag H.f4,uk ag H.f5,uk ag H.f6,us ag H.f8, ?_,fun _=>by rw[cy,jV (by decide)],H.chn⟩
   ·simpa only[bR ag,(nd:¬2=10),(nd:¬7=10),(nd:¬9=10),eh,uo x 45 4,uo x 50 4,uo x 52 4] using H.st
 ·rintro L a' w' ⟨x,cur,l,rfl,H⟩ cf
  have hs:=H.size;have u0:=cE p0 cf (by omega) (by simp)
  have u1:=cE p1 cf (by omega) (by simp)
  have u2:=cE p2 cf (by omega) (mc u0 (mc u1 mn))
  have u3:=cE p3 cf (by omega) (by simp)
  have u4:=cE p4 cf (by omega) (mc u3 mn)
  have u5:=cE p5 cf (by omega) (mc u4 mn)
  have u6:=cE p6 cf (by omega) (mc u5 mn)
  have u7:=cE p7 cf (by omega) (mc u2 (mc u6 mn))
  have u8:=cE p8 cf (by omega) (by simp)
  have u9:=cE p9 cf (by omega) (mc u7 (mc u8 mn))
  have u10:=cE p10 cf (by omega) (mc u0 (mc u1 (mc u2 (mc u3 (mc u4 (mc u5 (mc u6 (mc u7 (mc u8 (mc u9 mn))))))))))
  rcases H.st with ⟨-, -,sz, -⟩ | ⟨-, -,sz, -⟩ | ⟨-,sz, -⟩ | ⟨-,hx,hl⟩
  ·exact absurd u9 sz
  ·exact absurd u9 sz
  ·exact absurd u9 sz
  ·exact hQ x w' cur l H.chn.row hl H.chn.ext ((H.fz u10).trans hx)
structure TxqF (B:Nat) (w0:World) (v:Value) (r:List UInt8) (bx:Nat) (t:ByteArray) (L:Array Bool) (x:Nat→Value) (w:World) (cur:Value) (l:List UInt8):Prop where
 size:L.size=10
 f0:Up L 0→x 30=v
 f1:Up L 1→fY w cur 40 (x 31)
 f3:Up L 3→x 33=.pointer (some ⟨bx,1,none⟩)
 f4:Up L 4→x 34=.string t
 f5:Up L 5→x 35=.string (fI t)
 f7:Up L 7→fY w cur 41 (x 37)
 st:(¬Up L 2∧¬Up L 6∧¬Up L 8∧cur=v∧l=r)∨(Up L 2∧¬Up L 6∧¬Up L 8∧x 32=cur∧(fun l=>l=r++[40]) l)∨(Up L 6∧¬Up L 8∧x 36=cur∧(fun l=>l=r++[40]++(fI t).data.toList) l)∨(Up L 8∧x 38=cur∧(fun l=>l=r++[40]++(fI t).data.toList++[41]) l)
 fz:Up L 9→x 4=x 38
 chn:Chn B w0 v w cur l
theorem Io {ops:Array Oper} {id:Nat} {Q:Exit→Act→World→Prop} {a:Act} {w:World} {v:Value} {r:List UInt8} {B:Nat} {bx:Nat} {row:Obj} {t:ByteArray}
  (p0:cj ops 0 (.move (.tmp 0)) 30 [])
  (p1:cj ops 1 (.buildSlice 48 1 #[(0,.const (.int .u8 40))]) 31 [])
  (p2:cj ops 2 (.call {callee:=.builtin .append,args:= #[.tmp 30,.tmp 31],argTypes:= #[48,48]}) 32 [0,1])
  (p3:cj ops 3 (.fieldAddr 27 (.tmp 3) 1) 33 [])
  (p4:cj ops 4 (.load 9 (.tmp 33)) 34 [3])
  (p5:cj ops 5 (.call {callee:=.value (.func 76),args:= #[.tmp 34],argTypes:= #[9]}) 35 [4,2])
  (p6:cj ops 6 (.call {callee:=.builtin .append,args:= #[.tmp 32,.tmp 35],argTypes:= #[48,9]}) 36 [2,5])
  (p7:cj ops 7 (.buildSlice 48 1 #[(0,.const (.int .u8 41))]) 37 [])
  (p8:cj ops 8 (.call {callee:=.builtin .append,args:= #[.tmp 36,.tmp 37],argTypes:= #[48,48]}) 38 [6,7])
  (p9:cj ops 9 (.assign (.tmp 38)) 4 [0,1,2,3,4,5,6,7,8])
  (hn:ops.size=10) (ay:a.tmps.size=54) (h0:a.eval (.tmp 0)=v) (hv:aZ w B v r) (hB:B≤w.heap.size)
  (hr:r.length+140000≤100000000) (h3:a.eval (.tmp 3)=.pointer (some ⟨bx,0,none⟩)) (am:w.heap[bx]? =some row) (lY:some bx≠v.ownBlock) (hq:(fI t).size≤131100) (pd:∀W,(Instr.fieldAt 27 (.pointer (some ⟨bx,0,none⟩)) 1).run prog W=.ok (.pointer (some ⟨bx,1,none⟩)) W) (oZ:∀W:World,W.heap[bx]? =some row→(Instr.loadAt 9 (.pointer (some ⟨bx,1,none⟩))).run prog W=.ok (.string t) W)
  (hC:∀(w1:World) {c:Value},Ext w w1 v c→Calls prog 76 #[.string t] w1 fun e w2=>e=.returned (.string (fI t))∧Below w1.heap.size w1 w2)
  (hQ:∀x w2 v2 l2,aZ w2 B v2 l2→(fun l=>l=r++[40]++(fI t).data.toList++[41]) l2→Ext w w2 v v2→x 4=v2→Q .normal (fl a [30,31,32,33,34,35,36,37,38,4] x) w2):(Code.region id ops true).wp prog Q a w:=by
 refine ud (I:=fun L a' w'=>∃x cur l,a'=fl a [30,31,32,33,34,35,36,37,38,4] x∧TxqF B w v r bx t L x w' cur l) rfl ?_ ?_ ?_
 ·have hd:Below w.heap.size w w.drew:=(aV _ _).drew
  exact⟨fun d=>a.eval (.tmp d),v,r,(sW _ a).symm,by rw[hn];rfl,fun h=>absurd h cz,fun h=>absurd h cz,fun h=>absurd h cz,fun h=>absurd h cz,fun h=>absurd h cz,fun h=>absurd h cz,.inl ⟨cz,cz,cz,rfl,rfl⟩,fun h=>absurd h cz,hv.later hd,Ext.below v hd⟩
 ·rintro L a' w' i ⟨x,cur,l,rfl,H⟩ hsh hi
  have hs:=H.size;have au:i < 10:=by
   obtain⟨-,o,ho, -⟩:=ol.1 hi;have:=(bC.1 ho).1;omega
  have ag:i < L.size:=by rw[hs];exact au
  have hS:(L.setIfInBounds i true).size=10:=by simp[hs]
  have cw:B≤w'.heap.size:=bv hB H.chn.ext.grown.size;rcases (show i=0∨i=1∨i=2∨i=3∨i=4∨i=5∨i=6∨i=7∨i=8∨i=9 by omega) with rfl | rfl | rfl | rfl | rfl | rfl | rfl | rfl | rfl | rfl
  ·obtain⟨hu,hd⟩:=cD p0 hi
   refine cF p0 fun o ho aM=>ux ho ?_
   refine⟨bS x 30 v,cur,l,by rw[aM,(kV [30,31,32,33,34,35,36,37,38,4] a x (t:=0) (by decide)),h0,lB _ _ _ _ _ (by decide) (by decide)],hS,fun _=>cy _ _ _,us ag H.f1,uk ag H.f3,uk ag H.f4,uk ag H.f5,us ag H.f7, ?_,uz ag H.fz,H.chn⟩
   ·simpa only[bR ag,(nd:¬2=0),(nd:¬6=0),(nd:¬8=0),eh,uo x 32 30,uo x 36 30,uo x 38 30] using H.st
  ·obtain⟨hu,hd⟩:=cD p1 hi
   refine cF p1 fun o ho aM=>rM 40 ho ?_
   have hb:Below w'.heap.size w' (w'.alloc (.cells #[.int .u8 (((40:UInt8).toNat:Nat):Int)] 5)):=ba _;refine⟨bS x 31 (.slice (some ⟨w'.heap.size,0,none⟩) 1 1),cur,l,fp aM,hS,uk ag H.f0,fun _=>by rw[cy];exact fY.new H.chn.row 40,uk ag H.f3,uk ag H.f4,uk ag H.f5,fun h=>(ut ag H.f7 h).below hb, ?_,uz ag H.fz,H.chn.below hb⟩
   ·simpa only[bR ag,(nd:¬2=1),(nd:¬6=1),(nd:¬8=1),eh,uo x 32 31,uo x 36 31,uo x 38 31] using H.st
  ·obtain⟨hu,hd⟩:=cD p2 hi
   rcases H.st with ⟨s2,s6,s8,rfl,rfl⟩ | ⟨s2, -⟩ | ⟨s6, -⟩ | ⟨s8, -⟩
   ·obtain⟨g,hg,aS,tI⟩:=H.f1 (hd 1 (by decide))
    refine cF p2 fun o ho aM=>rN (.tmp 30) (.tmp 31) ho (fe ay (H.f0 (hd 0 (by decide)))) (fe ay (hg)) H.chn.row aS cw (by omega) ?_
    intro v' w2 hb2 he2;refine⟨bS x 32 v',v',_,fp aM,hS,uk ag H.f0,fun h=>(ut ag H.f1 h).next he2,uk ag H.f3,uk ag H.f4,uk ag H.f5,fun h=>(ut ag H.f7 h).next he2,.inr (.inl ⟨(bR ag).2 (.inl rfl),fun h=>s6 (gz ag h),fun h=>s8 (gz ag h),cy _ _ _,rfl⟩),uz ag H.fz,H.chn.next hb2 he2⟩
   ·exact absurd s2 hu
   ·exact absurd (fv p6 hsh s6 2 (by decide)) hu
   ·exact absurd (fv p6 hsh (fv p8 hsh s8 6 (by decide)) 2 (by decide)) hu
  ·obtain⟨hu,hd⟩:=cD p3 hi
   refine cF p3 fun o ho aM=>wj ho (by rw[(kV [30,31,32,33,34,35,36,37,38,4] a x (t:=3) (by decide))];exact h3) (pd w') ?_
   refine⟨bS x 33 (.pointer (some ⟨bx,1,none⟩)),cur,l,fp aM,hS,uk ag H.f0,us ag H.f1,fun _=>cy _ _ _,uk ag H.f4,uk ag H.f5,us ag H.f7, ?_,uz ag H.fz,H.chn⟩
   ·simpa only[bR ag,(nd:¬2=3),(nd:¬6=3),(nd:¬8=3),eh,uo x 32 33,uo x 36 33,uo x 38 33] using H.st
  ·obtain⟨hu,hd⟩:=cD p4 hi
   refine cF p4 fun o ho aM=>rU ho (fe ay (H.f3 (hd 3 (by decide)))) (oZ w' (H.chn.ext.row lY am)) ?_
   refine⟨bS x 34 (.string t),cur,l,fp aM,hS,uk ag H.f0,us ag H.f1,uk ag H.f3,fun _=>cy _ _ _,uk ag H.f5,us ag H.f7, ?_,uz ag H.fz,H.chn⟩
   ·simpa only[bR ag,(nd:¬2=4),(nd:¬6=4),(nd:¬8=4),eh,uo x 32 34,uo x 36 34,uo x 38 34] using H.st
  ·obtain⟨hu,hd⟩:=cD p5 hi
   refine cF p5 fun o ho aM=>xr ho func76 rfl rfl #[.string t] (by simp only[oh,fM,jM];rw[(jI [30,31,32,33,34,35,36,37,38,4] a x (d:=34) (by decide) (by decide) (by rw[ay];decide)),H.f4 (hd 4 (by decide))]) ((hC w' H.chn.ext).mono ?_)
   rintro e w2 ⟨rfl,hb⟩;refine⟨_,rfl,bS x 35 (.string (fI t)),cur,l,fp aM,hS,uk ag H.f0,fun h=>(ut ag H.f1 h).below hb,uk ag H.f3,uk ag H.f4,fun _=>cy _ _ _,fun h=>(ut ag H.f7 h).below hb, ?_,uz ag H.fz,H.chn.below hb⟩
   ·simpa only[bR ag,(nd:¬2=5),(nd:¬6=5),(nd:¬8=5),eh,uo x 32 35,uo x 36 35,uo x 38 35] using H.st
  ·obtain⟨hu,hd⟩:=cD p6 hi
   rcases H.st with ⟨s2, -⟩ | ⟨s2,s6,s8,hx,hl⟩ | ⟨s6, -⟩ | ⟨s8, -⟩
   ·exact absurd (hd 2 (by decide)) s2
   ·refine cF p6 fun o ho aM=>vV (.tmp 32) (.tmp 35) ho (fe ay (hx)) (fe ay (H.f5 (hd 5 (by decide)))) H.chn.row cw (by rw[hl,be,List.length_singleton];omega) ?_
    intro v' w2 hb2 he2;refine⟨bS x 36 v',v',_,fp aM,hS,uk ag H.f0,fun h=>(ut ag H.f1 h).next he2,uk ag H.f3,uk ag H.f4,uk ag H.f5,fun h=>(ut ag H.f7 h).next he2,.inr (.inr (.inl ⟨(bR ag).2 (.inl rfl),fun h=>s8 (gz ag h),cy _ _ _,by rw[hl]⟩)),uz ag H.fz,H.chn.next hb2 he2⟩
   ·exact absurd s6 hu
   ·exact absurd (fv p8 hsh s8 6 (by decide)) hu
  ·obtain⟨hu,hd⟩:=cD p7 hi
   refine cF p7 fun o ho aM=>rM 41 ho ?_
   have hb:Below w'.heap.size w' (w'.alloc (.cells #[.int .u8 (((41:UInt8).toNat:Nat):Int)] 5)):=ba _;refine⟨bS x 37 (.slice (some ⟨w'.heap.size,0,none⟩) 1 1),cur,l,fp aM,hS,uk ag H.f0,fun h=>(ut ag H.f1 h).below hb,uk ag H.f3,uk ag H.f4,uk ag H.f5,fun _=>by rw[cy];exact fY.new H.chn.row 41, ?_,uz ag H.fz,H.chn.below hb⟩
   ·simpa only[bR ag,(nd:¬2=7),(nd:¬6=7),(nd:¬8=7),eh,uo x 32 37,uo x 36 37,uo x 38 37] using H.st
  ·obtain⟨hu,hd⟩:=cD p8 hi
   rcases H.st with ⟨-,s6, -⟩ | ⟨-,s6, -⟩ | ⟨s6,s8,hx,hl⟩ | ⟨s8, -⟩
   ·exact absurd (hd 6 (by decide)) s6
   ·exact absurd (hd 6 (by decide)) s6
   ·obtain⟨g,hg,aS,tI⟩:=H.f7 (hd 7 (by decide))
    refine cF p8 fun o ho aM=>rN (.tmp 36) (.tmp 37) ho (fe ay (hx)) (fe ay (hg)) H.chn.row aS cw (by rw[hl,be,be,List.length_singleton,qlen];omega) ?_
    intro v' w2 hb2 he2;refine⟨bS x 38 v',v',_,fp aM,hS,uk ag H.f0,fun h=>(ut ag H.f1 h).next he2,uk ag H.f3,uk ag H.f4,uk ag H.f5,fun h=>(ut ag H.f7 h).next he2,.inr (.inr (.inr (⟨(bR ag).2 (.inl rfl),cy _ _ _,by rw[hl]⟩))),fun h=>absurd (fv p9 hsh (gz ag h) 8 (by decide)) hu,H.chn.next hb2 he2⟩
   ·exact absurd s8 hu
  ·obtain⟨hu,hd⟩:=cD p9 hi
   refine cF p9 fun o ho aM=>uy ho ?_
   refine⟨bS x 4 (x 38),cur,l,by rw[aM,(jI [30,31,32,33,34,35,36,37,38,4] a x (d:=38) (by decide) (by decide) (by rw[ay];decide)),lB _ _ _ _ _ (by decide) (by decide)],hS,uk ag H.f0,us ag H.f1,uk ag H.f3,uk ag H.f4,uk ag H.f5,us ag H.f7, ?_,fun _=>by rw[cy,jV (by decide)],H.chn⟩
   ·simpa only[bR ag,(nd:¬2=9),(nd:¬6=9),(nd:¬8=9),eh,uo x 32 4,uo x 36 4,uo x 38 4] using H.st
 ·rintro L a' w' ⟨x,cur,l,rfl,H⟩ cf
  have hs:=H.size;have u0:=cE p0 cf (by omega) (by simp)
  have u1:=cE p1 cf (by omega) (by simp)
  have u2:=cE p2 cf (by omega) (mc u0 (mc u1 mn))
  have u3:=cE p3 cf (by omega) (by simp)
  have u4:=cE p4 cf (by omega) (mc u3 mn)
  have u5:=cE p5 cf (by omega) (mc u4 (mc u2 mn))
  have u6:=cE p6 cf (by omega) (mc u2 (mc u5 mn))
  have u7:=cE p7 cf (by omega) (by simp)
  have u8:=cE p8 cf (by omega) (mc u6 (mc u7 mn))
  have u9:=cE p9 cf (by omega) (mc u0 (mc u1 (mc u2 (mc u3 (mc u4 (mc u5 (mc u6 (mc u7 (mc u8 mn)))))))))
  rcases H.st with ⟨-, -,sz, -⟩ | ⟨-, -,sz, -⟩ | ⟨-,sz, -⟩ | ⟨-,hx,hl⟩
  ·exact absurd u8 sz
  ·exact absurd u8 sz
  ·exact absurd u8 sz
  ·exact hQ x w' cur l H.chn.row hl H.chn.ext ((H.fz u9).trans hx)
end Go.Proofs.YtlmnjbipfacniaaGreatDoor
