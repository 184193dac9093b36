/- What strconv.FormatInt answers, laid from the library. What -/
import Derived.Below
import Derived.Shelf.LaysM
import Derived.Shelf.Strings.Builder1
import Derived.Shelf.Strings.Builder2
import Derived.Shelf.Small.Strs
import Derived.Shelf.Strconv.Itoa0
import Derived.Shelf.Strconv.Itoa1
import Derived.Shelf.Strconv.Itoa2
import Derived.Shelf.Strconv.Itoa3
import Derived.Shelf.Strconv.Itoa4
import Derived.Test.YtlmnjbipfacniaaGreatDoorProg
import Derived.Test.YtlmnjbipfacniaaGreatDoorClone4M
import Derived.Test.YtlmnjbipfacniaaGreatDoorLexRepLibM
import Derived.Test.YtlmnjbipfacniaaGreatDoorWrBM
import Derived.Test.YtlmnjbipfacniaaGreatDoorLxPlainM
import Derived.Shelf.Strconv.AppendUint10
import Derived.Shelf.Strconv.AppendInt10
import Derived.Shelf.Strconv.AppendIntPublic10
import Derived.Test.YtlmnjbipfacniaaGreatDoorPlCM
set_option maxRecDepth 100000
set_option maxHeartbeats 4000000
namespace Go.Proofs
open Go.Shelf Go.RowKit Go.Lib Go.Sort
def Tryz.laysM173_ren:Go.Shelf.Ren:=⟨fun | 173=>127 | 246=>144 | 283=>160 | 284=>161 | 285=>162 | 286=>163 | 129=>172 | 317=>171 | 318=>173 | 319=>174 | 320=>175 | 337=>181 | 338=>182 | n=>n,fun | 2=>2 | 3=>3 | 9=>9 | 4=>4 | 171=>192 | 0=>0 | 53=>187 | 37=>48 | 5=>5 | 173=>195 | 212=>203 | 51=>199 | 20=>20 | 213=>204 | 46=>190 | 232=>215 | 233=>216 | n=>n,fun | 17=>3 | 18=>6 | 19=>7 | n=>n⟩
theorem Tryz.laysM173:Go.Proofs.LaysM.n173 Tryz.prog Tryz.laysM173_ren:={
 mixed:=by kernel_rfl
 f129:=Tryz.func172.trans (congrArg some (by kernel_rfl))
 f173:=Tryz.func127.trans (congrArg some (by kernel_rfl))
 f246:=Tryz.func144.trans (congrArg some (by kernel_rfl))
 f283:=Tryz.func160.trans (congrArg some (by kernel_rfl))
 f284:=Tryz.func161.trans (congrArg some (by kernel_rfl))
 f285:=Tryz.func162.trans (congrArg some (by kernel_rfl))
 f286:=Tryz.func163.trans (congrArg some (by kernel_rfl))
 f317:=Tryz.func171.trans (congrArg some (by kernel_rfl))
 f318:=Tryz.func173.trans (congrArg some (by kernel_rfl))
 f319:=Tryz.func174.trans (congrArg some (by kernel_rfl))
 f320:=Tryz.func175.trans (congrArg some (by kernel_rfl))
 f337:=Tryz.func181.trans (congrArg some (by kernel_rfl))
 f338:=Tryz.func182.trans (congrArg some (by kernel_rfl))
 t0:=Tryz.underlying0
 a0:=Tryz.isAgg0
 z0:=Tryz.sizeOf0
 v0:=Tryz.zeroValue0
 t2:=Tryz.underlying2
 a2:=Tryz.isAgg2
 z2:=Tryz.sizeOf2
 v2:=Tryz.zeroValue2
 t3:=Tryz.underlying3
 a3:=Tryz.isAgg3
 z3:=Tryz.sizeOf3
 v3:=Tryz.zeroValue3
 t4:=Tryz.underlying4
 a4:=Tryz.isAgg4
 z4:=Tryz.sizeOf4
 v4:=Tryz.zeroValue4
 t5:=Tryz.underlying5
 a5:=Tryz.isAgg5
 z5:=Tryz.sizeOf5
 v5:=Tryz.zeroValue5
 t9:=Tryz.underlying9
 a9:=Tryz.isAgg9
 z9:=Tryz.sizeOf9
 v9:=Tryz.zeroValue9
 t20:=Tryz.underlying20
 a20:=Tryz.isAgg20
 z20:=Tryz.sizeOf20
 v20:=Tryz.zeroValue20
 t37:=Tryz.underlying48
 a37:=Tryz.isAgg48
 z37:=Tryz.sizeOf48
 v37:=Tryz.zeroValue48
 t46:=Tryz.underlying190
 a46:=Tryz.isAgg190
 z46:=Tryz.sizeOf190
 v46:=Tryz.zeroValue190
 t51:=Tryz.underlying199
 a51:=Tryz.isAgg199
 z51:=Tryz.sizeOf199
 v51:=Tryz.zeroValue199
 t53:=Tryz.underlying187
 a53:=Tryz.isAgg187
 z53:=Tryz.sizeOf187
 v53:=Tryz.zeroValue187
 t171:=Tryz.underlying192
 a171:=Tryz.isAgg192
 z171:=Tryz.sizeOf192
 v171:=Tryz.zeroValue192
 t173:=Tryz.underlying195
 a173:=Tryz.isAgg195
 z173:=Tryz.sizeOf195
 v173:=Tryz.zeroValue195
 t212:=Tryz.underlying203
 a212:=Tryz.isAgg203
 z212:=Tryz.sizeOf203
 v212:=Tryz.zeroValue203
 t213:=Tryz.underlying204
 a213:=Tryz.isAgg204
 z213:=Tryz.sizeOf204
 t232:=Tryz.underlying215
 a232:=Tryz.isAgg215
 z232:=Tryz.sizeOf215
 v232:=Tryz.zeroValue215
 t233:=Tryz.underlying216
 a233:=Tryz.isAgg216
 z233:=Tryz.sizeOf216
 v233:=Tryz.zeroValue216
 g17:=by kernel_rfl
 g18:=by kernel_rfl
 g19:=by kernel_rfl
 i0:=by kernel_rfl
 i2:=by kernel_rfl
 i3:=by kernel_rfl
 i4:=by kernel_rfl
 i5:=by kernel_rfl
 i9:=by kernel_rfl
 i20:=by kernel_rfl
 i37:=by kernel_rfl
 i46:=by kernel_rfl
 i51:=by kernel_rfl
 i53:=by kernel_rfl
 i171:=by kernel_rfl
 i173:=by kernel_rfl
 i212:=by kernel_rfl
 i232:=by kernel_rfl
 i233:=by kernel_rfl
 m17:=by kernel_rfl
 m18:=by kernel_rfl
 m19:=by kernel_rfl}
theorem Tryz.strconv_FormatInt_10 (n:Int) (h0: -9223372036854775808≤n) (h1:n≤9223372036854775807) (w:World) (htab:Lib.TabIs Tryz.prog w "internal/strconv.uint64pow10" .u64 Lib.pow10Tab):
  Calls Tryz.prog 127 #[.int .i64 n,.int .i64 10] w fun e w'=>e=.returned (.string ⟨(Lib.itoa n).toArray⟩)∧∃k os,w'=grow (w.drewN k) os:=Any.strconv_FormatInt_10 Tryz.laysM173 n h0 h1 w htab
end Go.Proofs
namespace Go.Proofs.YtlmnjbipfacniaaGreatDoor
open Go.Proofs.Tryz
open Go.RowKit
theorem EU (c:UInt8) (new:List UInt8):∀s:List UInt8,Lib.replaceK [c] new (s.count c) s=s.flatMap fun x=>if x=c then new else [x]
 | []=>rfl
 | b::l=>by
  have ih:=EU c new l;rw[ia]
  by_cases hb:b=c
  ·subst hb
   have h0:Lib.index (b::l) [b]=((0:Nat):Int):=by simp[Lib.index]
   rw[List.count_cons_self,Lib.replaceK_hit [b] new _ _ 0 h0,af rfl];show []++new++Lib.replaceK [b] new (l.count b) l=_;rw[ih];rfl
  ·rw[List.count_cons_of_ne hb,ac hb]
   cases hk:l.count c with
   | zero=>
    rw[hk] at ih;show b::l=[b]++_;rw[←ih];rfl
   | succ k=>
    obtain⟨i,hi⟩:=Lib.index_of_count (s:=l) (old:=[c]) (by rw[Lib.count_one];omega)
    have h1:Lib.index (b::l) [c]=((i+1:Nat):Int):=by
     have hp:[c].isPrefixOf (b::l)=false:=by simp[List.isPrefixOf];exact fun e=>hb e.symm
     rw[Lib.index,hp,hi];have:((i:Int)== -1)=false:=bn;simp[this]
    rw[Lib.replaceK_hit [c] new k _ _ h1];rw[hk,Lib.replaceK_hit [c] new k l i hi] at ih;rw[←ih];rfl
theorem Ho (l:List UInt8):Lib.replaceAll l [39] [39,39]=l.flatMap fun c=>if c=39 then [39,39] else [c]:=by
 unfold Lib.replaceAll Lib.replace Lib.replaceNum;rw[ac (by decide),af (.inl (by decide)),Lib.count_one]
 exact EU 39 [39,39] l
def fU (s:ByteArray):ByteArray:=⟨(eC s.data.toList).toArray⟩
theorem Bd (s:ByteArray) (w:World) (hs:s.size≤65536) (m:Int) (hm:w.cell? ⟨2,0,none⟩=some (.int .i64 m)):
  Calls prog 76 #[.string s] w fun e w'=>e=.returned (.string (fU s))∧Below w.heap.size w w':=by
 have hr:=fun W hW=>Tryz.strings_ReplaceAll s ⟨#[39]⟩ ⟨#[39,39]⟩ m W (by omega) hW (by decide) (by have:=Lib.countB_le ⟨#[39]⟩ (by decide) s.size s (ax _);show s.size+_ * 2≤_;omega)
 have HR:=ab hr;have HM:=ab hm;clear hr hm;go_enter func76,ntmps76;go_wp2_with fail;refine(aa HR _ (aa HM)).mono ?_;rintro e w1 ⟨rfl,hb⟩;obtain⟨r,hrr⟩:∃r,r=(⟨(Lib.replaceAll s.data.toList (⟨#[39]⟩:ByteArray).data.toList (⟨#[39,39]⟩:ByteArray).data.toList).toArray⟩:ByteArray):=⟨_,rfl⟩;rw[←hrr];have hq:fU s=⟨#[39]⟩++r++⟨#[39]⟩:=by
  rw[hrr];show fU s=⟨#[39]⟩++⟨(Lib.replaceAll s.data.toList [39] [39,39]).toArray⟩++⟨#[39]⟩;rw[Ho];apply ByteArray.ext;apply Array.ext';simp[fU,eC]
 have ay:(fU s).size=r.size+2:=by rw[hq,wn,wn];show 1+r.size+1=_;omega
 have hsq:(fU s).size≤131074:=by
  have h1:=A4 s.data.toList;have h2:s.data.toList.length=s.size:=by simp
  have h3:(fU s).size=(eC s.data.toList).length:=by simp[fU,ByteArray.size]
  omega
 have g1:¬9223372036854775807 < 1+r.size:=by omega
 have g2:¬9223372036854775807 < 1+r.size+1:=by omega
 have HQ:=ab hq;have HB:=ab hb;clear hrr hq ay hsq hb;go_wp2_with fail;go_ret;exact⟨by rw[aa HQ];rfl,aa HB⟩
theorem A1 (s:ByteArray) (hs:s.size≤65536):(fU s).size≤131074:=by
 have h1:=A4 s.data.toList;have h2:s.data.toList.length=s.size:=by simp
 have h3:(fU s).size=(eC s.data.toList).length:=by simp[fU,ByteArray.size]
 omega
theorem zb (p k:Int) (w:World):Calls prog 123 #[.int .i64 p,.int .i64 k] w fun e w'=>e=.returned (.bool (k5 p k))∧w'=w:=by
 by_cases h1:k=19
 ·have e1:(k==19)=true:=bt h1
  have HB:Hid (k5 p k=true):=ab (by unfold k5;simp[h1])
  clear h1;go_enter func123,ntmps123;go_wp2_with fail;go_ret;exact⟨by rw[aa HB];rfl,rfl⟩
 ·have e1:(k==19)=false:=bn h1
  by_cases h2:k=18
  ·have e2:(k==18)=true:=bt h2
   by_cases h3:p=19
   ·have e3:(p !=19)=false:=by rw[bne_eq_false_iff_eq];exact h3
    have HB:Hid (k5 p k=false):=ab (by unfold k5;simp[h1,h3])
    clear h1 h2 h3;go_enter func123,ntmps123;go_wp2_with fail;go_ret;exact⟨by rw[aa HB];rfl,rfl⟩
   ·have e3:(p !=19)=true:=by rw[rU];exact h3
    have HB:Hid (k5 p k=true):=ab (by unfold k5;simp[h2,h3])
    clear h1 h2 h3;go_enter func123,ntmps123;go_wp2_with fail;go_ret;exact⟨by rw[aa HB];rfl,rfl⟩
  ·have e2:(k==18)=false:=bn h2
   have HB:Hid (k5 p k=false):=ab (by unfold k5;simp[h1,h2])
   clear h1 h2;go_enter func123,ntmps123;go_wp2_with fail;go_ret;exact⟨by rw[aa HB];rfl,rfl⟩
open Go.RowKit
structure Gw (o t o':List UInt8) (c:Nat):Prop where
 same:(o++t).length≤2000→o'=o++t
 long:2000 < (o++t).length→2000 < o'.length
 most:o'.length≤max o.length 140000+c
 up:o.length≤o'.length
theorem Gw.refl (o:List UInt8):Gw o [] o 0:=⟨fun _=>(k9 o).symm,fun h=>by simpa using h,by omega,ax _⟩
theorem Gw.put (o t:List UInt8):Gw o t (o++t) t.length:=⟨fun _=>rfl,fun h=>h,by rw[bg];omega,by rw[bg];omega⟩
theorem Gw.big (o t:List UInt8) (ho:o.length≤2000) (ht:t.length≤131100):Gw o t (o++t) 0:=⟨fun _=>rfl,fun h=>h,by rw[bg];omega,by rw[bg];omega⟩
theorem Gw.gave (o t:List UInt8) (h:2000 < o.length):Gw o t o 0:=⟨fun x=>by rw[bg] at x;omega,fun _=>h,by omega,ax _⟩
theorem Gw.trans {o t1 o1 t2 o2:List UInt8} {c1 c2:Nat} (h:Gw o t1 o1 c1) (k:Gw o1 t2 o2 c2):Gw o (t1++t2) o2 (c1+c2):=by
 have hm:=h.most;have km:=k.most;have hu:=h.up;have ku:=k.up;refine⟨fun x=> ?_,fun x=> ?_,by omega,by omega⟩
 ·rw[bg,bg] at x
  have e:=h.same (by rw[bg];omega)
  subst e;rw[k.same (by simp only[bg];omega),gg]
 ·rcases cX 2000 (o++t1).length with y | y
  ·have:=h.long y;omega
  ·have e:=h.same y
   subst e;exact k.long (by rw[gg];exact x)
theorem Gw.more {o t o':List UInt8} {c d:Nat} (h:Gw o t o' c) (hc:c≤d):Gw o t o' d:=⟨h.same,h.long,by have:=h.most;omega,h.up⟩
def uQ (B z:Nat) (w:World) (v:Value) (o t:List UInt8) (f:Bool) (c:Nat) (w':World):Prop:=∃v' o',WX z w w' v v'∧WrI B z w' v' o' (f || eN t)∧Gw o t o' c
def iv (B z:Nat) (w:World) (v:Value) (o t:List UInt8) (f:Bool) (c:Nat) (e:Ending) (w':World):Prop:=e=.returned (.tuple #[])∧uQ B z w v o t f c w'
section
variable {B z:Nat} {w w1 w2:World} {v v1:Value} {o o1 t t1 t2:List UInt8} {f:Bool} {c c1 c2:Nat}
theorem uQ.cast (h:uQ B z w v o t f c w1) (e:t=t1) (hc:c≤c1):uQ B z w v o t1 f c1 w1:=by
 subst e;obtain⟨v',o',h1,h2,h3⟩:=h;exact⟨v',o',h1,h2,h3.more hc⟩
theorem sT.st (h:sT B z w v o t f w1):uQ B z w v o t f t.length w1:=by
 obtain⟨v',h1,h2⟩:=h;exact⟨v',o++t,h1,h2,Gw.put o t⟩
theorem WX.bel {n:Nat} {W:World} (hb:Below n W w) (hW:WrI B z w v o f) (hn:n≤z) (hx:WX z w w1 v v1):Below n W w1:=by
 refine⟨hx.os.trans hb.os,hx.tape.trans hb.tape,hx.output.trans hb.output,bJ hb.size hx.size,fun k hk=> ?_⟩
 have hz:=(bC.1 hW.blk).1;refine(hx.block k (by omega) (by omega) fun e=> ?_).trans (hb.block k hk)
 have h1:=(uV hW.row k e.symm).1;have h2:=hW.low;omega
end
structure EnvW (W:World):Prop where
 shx:gP W
 lim:∃m,W.cell? ⟨2,0,none⟩=some (.int .i64 m)
 pow:∀w,Below W.heap.size W w→Lib.TabIs prog w "internal/strconv.uint64pow10" .u64 Lib.pow10Tab
theorem EnvW.later {w w':World} (h:EnvW w) (hb:Below w.heap.size w w'):EnvW w':=⟨h.shx.later hb,by obtain⟨m,hm⟩:=h.lim;exact⟨m,av hb hm⟩,fun u hu=>h.pow u (ap hb hu)⟩
theorem EnvW.lt {w:World} (h:EnvW w):(2:Nat) < w.heap.size:=by obtain⟨m,hm⟩:=h.lim;exact de _ _ hm
theorem F2 {W w:World} {B z:Nat} {v:Value} {o:List UInt8} {f:Bool} (hE:EnvW W) (hb:Below W.heap.size W w) (hz:W.heap.size≤z) (hW:WrI B z w v o f) (l:List ByteArray) (hl:l.length≤11) (hs:∀t ∈ l,t.size≤200000) (ho:o.length≤10000000) {wl:World} (kL:wl=w.alloc (.cells (l.map Value.string).toArray 9)):
  Calls prog 42 #[.pointer (some ⟨z,0,none⟩),.slice (some ⟨w.heap.size,0,none⟩) l.length l.length] wl fun e w'=>e=.returned (.tuple #[])∧sT B z w v o (bN l) f w':=by
 obtain⟨m,hm⟩:=hE.lim;have bz:Below w.heap.size w wl:=by rw[kL];exact ba _
 have hg:wl.heap[w.heap.size]? =some (.cells (l.map Value.string).toArray 9 (0,0)):=by rw[kL];exact aw rfl
 have hzl:=(bC.1 hW.blk).1;have hN:NL.In wl ⟨some ⟨w.heap.size,0,none⟩,w.heap.size,0,l.length,l⟩:=⟨ax _,by show l.length≤maxLen;unfold maxLen;omega,fun _=>rfl,fun i t ht=>⟨by
  rw[oI,eX _ _ _ _ _ _ hg];have ht:l[i]? =some t:=ht;simp[ht],by have:=hs t (rO ht);unfold maxLen;omega⟩⟩
 refine(MR _ wl (hW.below bz) hN ⟨by show w.heap.size≠z;omega,fun e=> ?_⟩ hs hl ho m (av bz (av hb hm)) (i6 hE.lt hz)).mono fun e w' h=>⟨h.1, ?_⟩
 ·have:=(uV hW.row w.heap.size e.symm).2
  omega
 ·obtain⟨v',h1,h2⟩:=h.2
  exact⟨v',(WX.below bz).trans h1,h2⟩
open Go.RowKit
theorem Eg (l:List UInt8):eN l=true↔(10:UInt8) ∈ l:=by unfold eN;exact List.contains_iff_mem
theorem Lk (s:List UInt8):eN (eC s)=eN s:=by
 rw[uX,Eg,Eg];unfold eC;constructor
 ·intro h
  have h:=(rR.1 h).resolve_right (fun q=>absurd (fE.1 q) (by decide))
  have h:=(dU.1 h).resolve_left (by decide)
  obtain⟨c,hc,hx⟩:=List.mem_flatMap.1 h
  by_cases q:c=39
  ·rw[af q] at hx
   exact absurd hx (by decide)
  ·rw[ac q,fE] at hx
   rw[hx];exact hc
 ·intro h
  exact rR.2 (.inl (lY _ (List.mem_flatMap.2 ⟨10,h,by rw[ac (by decide)];exact fE.2 rfl⟩)))
theorem fJ (t:ByteArray):bN [t]=t.data.toList:=by unfold bN;simp
theorem zY {B z:Nat} {w w1:World} {v v1:Value} {o o1 t:List UInt8} {f g:Bool} {c:Nat} (hx:WX z w w1 v v1) (hw:WrI B z w1 v1 o1 g) (hg:Gw o t o1 c) (b:Bool) (hb:b=(f || eN t)):uQ B z w v o t f c (w1.setCell ⟨z,1,none⟩ (.bool b)):=
 ⟨v1,o1,hx.set 1 _,by rw[←hb];exact hw.feed b,hg⟩
theorem I1 {W w:World} {B z:Nat} {v:Value} {o:List UInt8} {f:Bool} (s:ByteArray) (hE:EnvW W) (hb:Below W.heap.size W w) (hz:W.heap.size≤z) (hW:WrI B z w v o f) (hs:s.size≤65536) (ho:o.length≤10000000):
  Calls prog 126 #[.pointer (some ⟨z,0,none⟩),.string s] w fun e w'=>iv B z w v o (eC s.data.toList) f 0 e w':=by
 obtain⟨m,hm⟩:=hE.lim;have vH:=ab (fun w (h:Below W.heap.size W w)=>Bd s w hs m (av h hm))
 have HCT:=ab (fun (wr:World) (h:Below W.heap.size W wr)=>show Calls prog 79 #[.string s,.string ⟨#[10]⟩] wr fun e w'=>e=.returned (.bool (eN s.data.toList))∧w'=wr from Fy s.data.toList▸Tryz.strings_Contains s ⟨#[10]⟩ m wr (by omega) (av h hm))
 have tX:=ab (fun (w1:World) (h:Below W.heap.size W w1) (ep:WrI B z w1 v o f)=>show Calls prog 42 #[.pointer (some ⟨z,0,none⟩),.slice (some ⟨w1.heap.size,0,none⟩) 1 1] (w1.alloc (.cells #[.string (fU s)] 9)) fun e w'=>e=.returned (.tuple #[])∧sT B z w1 v o (bN [fU s]) f w' from F2 hE h hz ep [fU s] (by simp) (fun t ht=>by rw[fE] at ht;subst ht;have:=A1 s hs;omega) ho rfl)
 have HBL:=ab (fun (w1:World) (v1:Value) (hx:WX z w w1 v v1)=>WX.bel hb hW hz hx)
 have HNL:=ab (Lk s.data.toList);have hqb:bN [fU s]=eC s.data.toList:=by rw[fJ];unfold fU;simp
 rw[hqb] at tX;have HQL:Hid ((eC s.data.toList).length≤131100):=ab (by
  have:=A4 s.data.toList;have h2:s.data.toList.length=s.size:=by simp
  omega)
 obtain⟨xa,cp,oM⟩:=sH hW.row;subst oM;have HW:=ab hW;have HB:=ab hb;have c0:=hW.c0;have c1:=hW.c1;have f1:=hW.fz 1;clear hW hb hE hm hs hqb;generalize eC s.data.toList=q at *
 by_cases h2:o.length≤2000
 ·have q2:(o.length:Int)≤2000:=by omega
  have HO:=ab h2;clear h2;go_enter func126,ntmps126;go_wp2_with fail;refine(aa vH w (aa HB)).mono ?_;rintro e w1 ⟨rfl,hb1⟩;have HP:=ab (aa tX w1 (ap (aa HB) hb1) ((aa HW).below hb1));have dy:=ab (WX.below (z:=z) (v:=.slice xa o.length cp) hb1);clear hb1 tX vH c0 c1 f1;go_wp2_with fail;refine(aa HP).mono ?_;rintro e w2 ⟨rfl,v2,cN,gH⟩;have dY:=ab ((aa dy).trans cN);obtain⟨ff,hff⟩:∃ff,ff=(f || eN q):=⟨_,rfl⟩;rw[←hff] at gH;have gL:=ab gH;have c1:=gH.c1;have f1:=gH.fz 1;have lR:=ab (aa HCT w2 (aa HBL w2 v2 (aa dY)));have HFF:=ab hff;clear cN gH HP dy HCT HBL hff
  cases ff
  ·have HF:=ab (zY (aa dY) (aa gL) (Gw.big o q (aa HO) (aa HQL)) (eN s.data.toList) (by
    have h:=aa HFF;rw[←h];have h3:eN q=false:=by cases hq:eN q with
     | false=>rfl
     | true=>rw[hq,Bool.or_true] at h;cases h
    rw[←aa HNL,h3]))
   go_wp2_with fail;refine(aa lR).mono ?_;rintro e w2 ⟨rfl,rfl⟩;generalize eN s.data.toList=nt at *;go_wp2_with fail;go_end0;exact⟨rfl,aa HF⟩
  ·have HF:=ab (zY (aa dY) (aa gL) (Gw.big o q (aa HO) (aa HQL)) true (aa HFF))
   go_wp2_with fail;go_end0;exact⟨rfl,aa HF⟩
 ·have q2:¬(o.length:Int)≤2000:=by omega
  have HO:Hid (2000 < o.length):=ab (by omega)
  clear h2
  cases f
  ·have HF:=ab (zY (WX.refl z w _) (aa HW) (Gw.gave o q (aa HO)) (eN s.data.toList) (by rw[aa HNL,xF]))
   go_enter func126,ntmps126;go_wp2_with fail;refine(aa HCT w (aa HB)).mono ?_;rintro e w ⟨rfl,rfl⟩;generalize eN s.data.toList=nt at *;go_wp2_with fail;go_end0;exact⟨rfl,aa HF⟩
  ·have HF:=ab (zY (WX.refl z w _) (aa HW) (Gw.gave o q (aa HO)) true (by rw[Bool.true_or]))
   go_enter func126,ntmps126;go_wp2_with fail;go_end0;exact⟨rfl,aa HF⟩
end Go.Proofs.YtlmnjbipfacniaaGreatDoor
