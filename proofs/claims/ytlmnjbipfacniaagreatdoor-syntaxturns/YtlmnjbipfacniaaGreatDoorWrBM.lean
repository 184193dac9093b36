/- What strings.Contains answers, laid from the library. The wr -/
import Derived.Below
import Derived.Shelf.LaysM
import Derived.Shelf.Strings.Shaped
import Derived.Test.YtlmnjbipfacniaaGreatDoorProg
import Derived.Test.YtlmnjbipfacniaaGreatDoorLexRepLibM
import Derived.Test.YtlmnjbipfacniaaGreatDoorPrintExt4M
import Derived.Test.YtlmnjbipfacniaaGreatDoorStAM
set_option maxRecDepth 100000
set_option maxHeartbeats 4000000
namespace Go.Proofs
open Go.Shelf Go.RowKit Go.Lib
def Tryz.lays144_ren:Go.Shelf.Ren:=⟨fun | 144=>79 | 143=>125 | 219=>143 | 217=>131 | 225=>157 | 224=>158 | 267=>159 | 266=>147 | 314=>170 | n=>n,fun | 9=>9 | 4=>4 | 3=>3 | 5=>5 | 46=>190 | 146=>200 | 51=>199 | n=>n,fun | 1=>2 | n=>n⟩
theorem Tryz.lays144:Go.Proofs.Lays.n144 Tryz.prog Tryz.lays144_ren:={
 mixed:=by kernel_rfl
 f143:=Tryz.func125.trans (congrArg some (by kernel_rfl))
 f144:=Tryz.func79.trans (congrArg some (by kernel_rfl))
 f217:=Tryz.func131.trans (congrArg some (by kernel_rfl))
 f219:=Tryz.func143.trans (congrArg some (by kernel_rfl))
 f224:=Tryz.func158.trans (congrArg some (by kernel_rfl))
 f225:=Tryz.func157.trans (congrArg some (by kernel_rfl))
 f266:=Tryz.func147.trans (congrArg some (by kernel_rfl))
 f267:=Tryz.func159.trans (congrArg some (by kernel_rfl))
 f314:=Tryz.func170.trans (congrArg some (by kernel_rfl))
 t3:=Tryz.underlying3
 a3:=Tryz.isAgg3
 z3:=Tryz.sizeOf3
 v3:=Tryz.zeroValue3
 t4:=Tryz.underlying4
 a4:=Tryz.isAgg4
 z4:=Tryz.sizeOf4
 v4:=Tryz.zeroValue4
 t5:=Tryz.underlying5
 a5:=Tryz.isAgg5
 z5:=Tryz.sizeOf5
 v5:=Tryz.zeroValue5
 t9:=Tryz.underlying9
 a9:=Tryz.isAgg9
 z9:=Tryz.sizeOf9
 v9:=Tryz.zeroValue9
 t46:=Tryz.underlying190
 a46:=Tryz.isAgg190
 z46:=Tryz.sizeOf190
 v46:=Tryz.zeroValue190
 t51:=Tryz.underlying199
 a51:=Tryz.isAgg199
 z51:=Tryz.sizeOf199
 v51:=Tryz.zeroValue199
 t146:=Tryz.underlying200
 a146:=Tryz.isAgg200
 z146:=Tryz.sizeOf200
 v146:=Tryz.zeroValue200
 g1:=by kernel_rfl}
theorem Tryz.strings_Contains (s sub:ByteArray) (m:Int) (w:World) (hs:s.size < 4294967281) (hm:w.cell? ⟨2,0,none⟩=some (.int .i64 m)):
  Calls Tryz.prog 79 #[.string s,.string sub] w fun e w'=>e=.returned (.bool (Lib.contains s.data.toList sub.data.toList))∧w'=w:=Any.strings_Contains Tryz.lays144 s sub m w hs hm
end Go.Proofs
namespace Go.Proofs.YtlmnjbipfacniaaGreatDoor
open Go.Proofs.Tryz
open Go.RowKit
structure WX (z:Nat) (w w':World) (v v':Value):Prop where
 os:w'.os=w.os
 tape:w'.tape=w.tape
 output:w'.output=w.output
 size:w.heap.size≤w'.heap.size
 block:∀k,k < w.heap.size→k≠z→some k≠v.ownBlock→w'.heap[k]? =w.heap[k]?
 lies:v'.ownBlock=v.ownBlock∨∀k,v'.ownBlock=some k→w.heap.size≤k
section
variable {z:Nat} {a b c w w':World} {v v1 v2 v3:Value}
theorem WX.refl (z:Nat) (w:World) (v:Value):WX z w w v v:=⟨rfl,rfl,rfl,ax _,fun _ _ _ _=>rfl,.inl rfl⟩
theorem WX.trans (h:WX z a b v1 v2) (k:WX z b c v2 v3):WX z a c v1 v3:=by
 refine⟨k.os.trans h.os,k.tape.trans h.tape,k.output.trans h.output,bJ h.size k.size,fun i hi h1 h2=> ?_, ?_⟩
 ·refine(k.block i (i6 hi h.size) h1 fun e=> ?_).trans (h.block i hi h1 h2)
  rcases h.lies with x | x
  ·exact h2 (e.trans x)
  ·have:=x i e.symm
   omega
 ·rcases k.lies with x | x
  ·rcases h.lies with y | y
   ·exact .inl (x.trans y)
   ·exact .inr fun q hq=>y q (x▸hq)
  ·exact .inr fun q hq=>bJ h.size (x q hq)
theorem WX.of_ext (h:Ext w w' v v1):WX z w w' v v1:=⟨h.grown.os,h.grown.tape,h.grown.output,h.grown.size,fun k h1 _ h2=>h.grown.block k h1 h2,h.lies⟩
theorem WX.below (h:Below w.heap.size w w'):WX z w w' v v:=⟨h.os,h.tape,h.output,h.size,fun k h1 _ _=>h.block k h1,.inl rfl⟩
theorem WX.set (h:WX z a b v1 v2) (k:Nat) (u:Value):WX z a (b.setCell ⟨z,k,none⟩ u) v1 v2:=
 ⟨h.os,h.tape,h.output,by rw[nV];exact h.size,fun i h1 h2 h3=>(dm b ⟨z,k,none⟩ i u h2).trans (h.block i h1 h2 h3),h.lies⟩
end
theorem Ea {W W':World} {B e size n:Nat} {v:Value} {xs:List Value} (h:W.ownsRow B e size v n xs) (hb:∀k,v.ownBlock=some k→W'.heap[k]? =W.heap[k]?):W'.ownsRow B e size v n xs:=by
 refine⟨h.1, ?_⟩;rcases h.2 with h | ⟨g,cap,cur,rfl,h1,h2,h3⟩
 ·exact .inl h
 ·exact .inr ⟨g,cap,cur,rfl,h1,(hb g rfl).trans h2,h3⟩
structure WrI (B z:Nat) (w:World) (v:Value) (o:List UInt8) (f:Bool):Prop where
 blk:w.heap[z]? =some (.cells #[v,.bool f] 59 (0,0))
 row:bm w B v o
 low:z < B
 lt:B≤w.heap.size
section
variable {B z:Nat} {w w':World} {v v':Value} {o:List UInt8} {f:Bool}
theorem WrI.c0 (h:WrI B z w v o f):w.cell? ⟨z,0,none⟩=some v:=cr h.blk
theorem WrI.c1 (h:WrI B z w v o f):w.cell? ⟨z,1,none⟩=some (.bool f):=cr h.blk
theorem WrI.fz (h:WrI B z w v o f) (k:Nat):w.frozen? ⟨z,k,none⟩=false:=cT w z k _ _ h.blk
theorem WrI.nz (h:WrI B z w v o f):some z≠v.ownBlock:=fun e=>by
 have:=(uV h.row z e.symm).1;have:=h.low;omega
theorem WrI.below (h:WrI B z w v o f) (hb:Below w.heap.size w w'):WrI B z w' v o f:=⟨am h.blk hb,h.row.later hb,h.low,bJ h.lt hb.size⟩
theorem WrI.feed (h:WrI B z w v o f) (g:Bool):WrI B z (w.setCell ⟨z,1,none⟩ (.bool g)) v o g:=by
 have hb:∀k,v.ownBlock=some k→(w.setCell ⟨z,1,none⟩ (.bool g)).heap[k]? =w.heap[k]? :=fun k hk=>dm w ⟨z,1,none⟩ k _ fun e=>h.nz (by rw[hk];exact aJ some e.symm)
 exact⟨fK w z 1 _ _ _ h.blk,Ea h.row hb,h.low,by rw[nV];exact h.lt⟩
theorem WrI.grow (h:WrI B z w v o f) (hE:Ext w w' v v') {o':List UInt8} (hB:bm w' B v' o'):WrI B z (w'.setCell ⟨z,0,none⟩ v') v' o' f:=by
 have hz:=hE.row h.nz h.blk;have hn:∀k,v'.ownBlock=some k→k≠z:=fun k hk e=>by
  have:=(uV hB k hk).1;have:=h.low;omega
 have hb:∀k,v'.ownBlock=some k→(w'.setCell ⟨z,0,none⟩ v').heap[k]? =w'.heap[k]? :=fun k hk=>dm w' ⟨z,0,none⟩ k _ (hn k hk)
 exact⟨fK w' z 0 _ _ _ hz,Ea hB hb,h.low,by rw[nV];exact bJ h.lt hE.grown.size⟩
end
def bN (l:List ByteArray):List UInt8:=l.flatMap fun t=>t.data.toList
theorem kE (t:ByteArray) (l:List ByteArray):bN (t::l)=t.data.toList++bN l:=rfl
theorem L6 (l:List ByteArray) (t:ByteArray):bN (l++[t])=bN l++t.data.toList:=by unfold bN;rw[List.flatMap_append];simp
def eN (l:List UInt8):Bool:=l.contains 10
theorem Eh (a b:List UInt8):eN (a++b)=(eN a || eN b):=by
 unfold eN;rw[uX];simp
theorem Ez:∀l:List UInt8,(Lib.index l [10]= -1∧eN l=false)∨(0≤Lib.index l [10]∧eN l=true)
 | []=>.inl ⟨rfl,rfl⟩
 | b::l=>by
  have hp:([10]:List UInt8).isPrefixOf (b::l)=((10:UInt8)==b):=by
   show ((10:UInt8)==b && List.isPrefixOf [] l)=_;rw[show List.isPrefixOf ([]:List UInt8) l=true from by cases l <;> rfl,Bool.and_true]
  have hc:eN (b::l)=(((10:UInt8)==b) || eN l):=by unfold eN;rfl
  unfold Lib.index;rw[hp,hc]
  by_cases q:(10:UInt8)==b
  ·rw[af q,q];exact .inr ⟨by decide,rfl⟩
  ·rw[ac q,Bool.eq_false_iff.2 q,xF]
   rcases Ez l with ⟨h1,h2⟩ | ⟨h1,h2⟩
   ·rw[h1,h2];exact .inl ⟨rfl,rfl⟩
   ·have:(Lib.index l [10]== -1)=false:=bn
    rw[this,h2];exact .inr ⟨by show 0≤Lib.index l [10]+1;omega,rfl⟩
theorem Fy (l:List UInt8):Lib.contains l [10]=eN l:=by
 unfold Lib.contains;rcases Ez l with ⟨h1,h2⟩ | ⟨h1,h2⟩
 ·rw[h1,h2];rfl
 ·rw[h2,eW h1]
open Go.RowKit
theorem sH {w:World} {B:Nat} {v:Value} {l:List UInt8} (h:bm w B v l):∃a cap,v=.slice a l.length cap:=by
 rcases h.2 with ⟨rfl,e⟩ | ⟨g,cap,cur,rfl, -⟩
 ·exact⟨none,0,by rw[e]⟩
 ·exact⟨_,cap,rfl⟩
theorem L5 {l:List ByteArray} {i:Nat} {t:ByteArray} (ht:l[i]? =some t):bN (l.take (i+1))=bN (l.take i)++t.data.toList:=by
 rw[List.take_add_one,ht];exact L6 _ _
theorem FC:∀(l:List ByteArray),(∀t ∈ l,t.size≤200000)→(bN l).length≤200000 * l.length
 | [],_=>ax _
 | t::l,h=>by
  have h1:=h t (by simp)
  have ih:=FC l fun x hx=>h x (lY _ hx)
  rw[kE,bg,List.length_cons];have:t.data.toList.length=t.size:=by simp
  omega
def sT (B z:Nat) (w:World) (v:Value) (o t:List UInt8) (f:Bool) (w':World):Prop:=∃v',WX z w w' v v'∧WrI B z w' v' (o++t) (f || eN t)
theorem MR (N:NL) {B z:Nat} {v:Value} {o:List UInt8} {f:Bool} (w:World) (hW:WrI B z w v o f) (hN:N.In w) (hg:N.gb≠z∧some N.gb≠v.ownBlock) (hs:∀t ∈ N.l,t.size≤200000) (hl:N.l.length≤11) (ho:o.length≤10000000)
  (m:Int) (hm:w.cell? ⟨2,0,none⟩=some (.int .i64 m)) (hmz:(2:Nat) < z):
  Calls prog 42 #[.pointer (some ⟨z,0,none⟩),N.v] w fun e w'=>e=.returned (.tuple #[])∧sT B z w v o (bN N.l) f w':=by
 have HN:=ab hN;have HG:=ab hg;have HS:=ab hs;have HO:=ab (And.intro ho hl);have iG:=hN.at_;have HLK:=ab (fun (wr:World) (v':Value) (hx:WX z w wr v v') (h:WrI B z wr v' o f∨True)=>show wr.cell? ⟨2,0,none⟩=some (.int .i64 m) from by
  have au:=de _ _ hm;have e:=hx.block 2 au (by omega) (fun e=>by
   have h1:=(uV hW.row _ e.symm).1;have h2:=hW.low;have:(2:Nat) < z:=hmz;omega)
  rw[←hm];unfold World.cell?;rw[e])
 have H0:Hid (sT B z w v o (bN (N.l.take 0)) f w):=ab (⟨v,WX.refl _ _ _,by
  rw[show bN (N.l.take 0)=[] from by simp[bN],k9,show eN []=false from rfl,Bool.or_false];exact hW⟩)
 obtain⟨n,hn⟩:∃n,n=N.l.length:=⟨_,rfl⟩;have HNL:=ab hn;have jr:n≤11:=by rw[hn];exact hl
 have HCE:=ab (fun (i:Nat) (t:ByteArray) (wr:World) (v':Value) (ht:N.l[i]? =some t) (hx:WX z w wr v v')=>show wr.cell? ⟨N.gb,N.ob+i,none⟩=some (.string t) from by
  have hc:=(hN.cell i t ht).1;have e:=hx.block N.gb (de _ _ hc) hg.1 hg.2;rw[←hc];unfold World.cell?;rw[e])
 clear hW hN hg hs ho hm hl hmz;unfold NL.v;rw[←hn] at iG ⊢;clear hn;have HNC:=ab (aa HN).cap;generalize oJ:N.xa=xa at *;generalize tA:N.cap=cap at *;clear oJ tA;go_enter func42,ntmps42;go_wp2_with fail;go_loopw [8] (fun u wr=>∃i:Nat,i≤n∧u=.int .i64 (i:Int)∧Hid (sT B z w v o (bN (N.l.take i)) f wr)) (fun u _=>n - (intOf u).toNat)
 case atStart=>exact⟨0,cU _,rfl,aa H0⟩
 case round=>
  obtain⟨i,hi,rfl,HI⟩:=hrel;rcases cX i n with au | jc
  ·obtain⟨t,ht⟩:∃t,N.l[i]? =some t:=⟨N.l[i]'(by have:=aa HNL;omega),jH _⟩
   have oJ:=iG (by omega)
   subst oJ;obtain⟨v',hx,hwi⟩:=aa HI;have ct:=aa HCE i t wr v' ht hx;have pV:t.size≤200000:=aa HS t (rO ht);have oe:=FC (N.l.take i) fun x hx=>aa HS x (List.mem_of_mem_take hx)
   rw[List.length_take] at oe;have lP:Hid ((o++bN (N.l.take i)).length+t.size≤100000000):=ab (by rw[bg];have:=(aa HO).1;omega)
   have ma:=xd (g:=N.gb) (o:=N.ob) (cap:=cap) (i:=i) (n:=n) underlying28 xR au;have HCT:Hid (Calls prog 79 #[.string t,.string ⟨#[10]⟩] wr fun e w'=>e=.returned (.bool (eN t.data.toList))∧w'=wr):=ab (Fy t.data.toList▸Tryz.strings_Contains t ⟨#[10]⟩ m wr (by omega) (aa HLK wr v' hx (.inr trivial)))
   have tZ:Hid (∀w' v'',WX z wr w' v' v''→WrI B z w' v'' ((o++bN (N.l.take i))++t.data.toList) ((f || eN (bN (N.l.take i))) || eN t.data.toList)→sT B z w v o (bN (N.l.take (i+1))) f w'):=ab (fun w' v'' h1 h2=>⟨v'',hx.trans h1,by rw[L5 ht,Eh,←gg,←Bool.or_assoc];exact h2⟩)
   have HWI:=ab hwi;have c1:=hwi.c1;have c0:=hwi.c0;have f1:=hwi.fz 1;clear ht oe hx pV HI H0 hwi;generalize o++bN (N.l.take i)=oo at *;generalize (f || eN (bN (N.l.take i)))=ff at *;generalize eN t.data.toList=nt at *
   cases ff
   ·go_wp2_with fail
    refine(aa HCT).mono ?_;rintro e wr ⟨rfl,rfl⟩;clear HCT c0;have c1:=(aa HWI).c1;have f1:=(aa HWI).fz 1;have HF:=ab ((aa HWI).feed nt);have HXF:=ab ((WX.refl z wr v').set 1 (.bool nt));obtain⟨xa,cp,oM⟩:=sH (aa HWI).row;subst oM;have d0:=(aa HF).c0;rw[xF] at tZ;go_wp2_with (first
     | (refine rs rfl _ _ rfl B (.slice xa oo.length cp) oo t rfl rfl (by with_reducible exact(aa HF).row) (aa HF).lt (aa lP) ?_;intro v2 w2 kP qT;obtain⟨a2,c2,hv2⟩:=sH kP;obtain⟨n2,kq⟩:∃n2,n2=(oo++t.data.toList).length:=⟨_,rfl⟩;rw[←kq] at hv2;clear kq;subst hv2;have qf:=ab ((aa HF).grow qT kP);have dY:=ab (((aa HXF).trans (WX.of_ext (z:=z) qT)).set 0 (.slice a2 n2 c2));have k0:=eX _ z 0 _ _ _ (qT.row (aa HF).nz (aa HF).blk);have k1:=cT w2 z 0 _ _ (qT.row (aa HF).nz (aa HF).blk);clear kP qT)
     | fail)
    exact⟨⟨i+1,by omega,rfl,aa tZ _ _ (aa dY) (aa qf)⟩,by simp[intOf];omega⟩
   ·rw[Bool.true_or] at tZ
    clear HCT c0;have HF:=ab ((aa HWI).feed true);have HXF:=ab ((WX.refl z wr v').set 1 (.bool true));obtain⟨xa,cp,oM⟩:=sH (aa HWI).row;subst oM;have d0:=(aa HF).c0;go_wp2_with (first
     | (refine rs rfl _ _ rfl B (.slice xa oo.length cp) oo t rfl rfl (by with_reducible exact(aa HF).row) (aa HF).lt (aa lP) ?_;intro v2 w2 kP qT;obtain⟨a2,c2,hv2⟩:=sH kP;obtain⟨n2,kq⟩:∃n2,n2=(oo++t.data.toList).length:=⟨_,rfl⟩;rw[←kq] at hv2;clear kq;subst hv2;have qf:=ab ((aa HF).grow qT kP);have dY:=ab (((aa HXF).trans (WX.of_ext (z:=z) qT)).set 0 (.slice a2 n2 c2));have k0:=eX _ z 0 _ _ _ (qT.row (aa HF).nz (aa HF).blk);have k1:=cT w2 z 0 _ _ (qT.row (aa HF).nz (aa HF).blk);clear kP qT)
     | fail)
    exact⟨⟨i+1,by omega,rfl,aa tZ _ _ (aa dY) (aa qf)⟩,by simp[intOf];omega⟩
  ·obtain rfl:i=n:=by omega
   have HE:=ab (aa HI);have HNL2:Hid (sT B z w v o (bN N.l) f wr):=ab (by have h:=aa HE;rw[aa HNL,List.take_length] at h;exact h)
   clear HI HE;go_wp2_with fail;go_end0;exact⟨rfl,aa HNL2⟩
end Go.Proofs.YtlmnjbipfacniaaGreatDoor
