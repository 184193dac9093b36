/- Statements: what is wrong with names, the first of some erro -/
import Derived.Test.YtlmnjbipfacniaaGreatDoorExFitsMs
import Derived.Test.YtlmnjbipfacniaaGreatDoorLexRepLibMs
import Derived.Below
import Derived.Shelf.LaysM
import Derived.Shelf.Strings.Builder1
import Derived.Shelf.Strings.Builder2
import Derived.Shelf.Small.Strs
import Derived.Shelf.Strconv.Itoa0
import Derived.Shelf.Strconv.Itoa1
import Derived.Shelf.Strconv.Itoa2
import Derived.Shelf.Strconv.Itoa3
import Derived.Shelf.Strconv.Itoa4
import Derived.Test.YtlmnjbipfacniaaGreatDoorProg
import Derived.Shelf.Strconv.AppendUint10
import Derived.Shelf.Strconv.AppendInt10
import Derived.Shelf.Strconv.AppendIntPublic10
set_option maxRecDepth 100000
set_option maxHeartbeats 4000000
namespace Go.Proofs.YtlmnjbipfacniaaGreatDoor
open Go.Proofs.Tryz
open Go.RowKit
structure NL where
 xa:Option Addr
 gb:Nat
 ob:Nat
 cap:Nat
 l:List ByteArray
def NL.v (N:NL):Value:=.slice N.xa N.l.length N.cap
structure NL.In (w:World) (N:NL):Prop where
 cap:N.l.length≤N.cap
 max:N.cap≤maxLen
 at_:0 < N.l.length→N.xa=some ⟨N.gb,N.ob,none⟩
 cell:∀i t,N.l[i]? =some t→w.cell? ⟨N.gb,N.ob+i,none⟩=some (.string t)∧t.size≤maxLen
theorem NL.In.later {w w':World} {N:NL} (h:N.In w) (hb:Below w.heap.size w w'):N.In w':=⟨h.cap,h.max,h.at_,fun i t ht=>⟨av hb (h.cell i t ht).1,(h.cell i t ht).2⟩⟩
def dH (l:List ByteArray):Int:=if l.all ca=true then 0 else 7
theorem LS {l:List ByteArray} {k:Nat} (h:(l.take k).all ca=true) {t:ByteArray} (ht:l[k]? =some t) (hn:ca t=true):(l.take (k+1)).all ca=true:=by
 rw[xB,ht];simp only[Option.toList_some,List.all_append,h,List.all_cons,hn,List.all_nil,Bool.and_self]
theorem Nf {l:List ByteArray} {k:Nat} {t:ByteArray} (ht:l[k]? =some t) (hn:ca t=false):l.all ca=false:=by
 rw[←Bool.not_eq_true,uN];intro h;rw[h t (oS ht)] at hn
 cases hn
theorem wh {t e:TypeId} {g o n cap i:Nat} (hu:prog.underlying t=some (.slice e)) (hs:(prog.info? e).map (·.size)=some 1) (hi:i < n) (w:World):
  (Instr.indexAt t (.slice (some ⟨g,o,none⟩) n cap) (.int .i64 (i:Int))).run prog w=.ok (.pointer (some ⟨g,o+i,none⟩)) w:=by
 have h0:(0:Int)≤(i:Int)∧(i:Int) < (n:Int):=by omega
 cases hq:prog.info? e with
 | none=>simp[hq] at hs
 | some x=>
  have hz:x.size=1:=by simpa [hq] using hs
  simp[Instr.indexAt,asIntOf,run_underlying hu,h0,sizeOf,typeInfo,hq,hz,Addr.add_lit];intro h;omega
theorem wO:(prog.info? 9).map (·.size)=some 1:=by kernel_rfl
theorem Jm:(prog.info? 32).map (·.size)=some 1:=by kernel_rfl
theorem y5 (N:NL) (w:World) (hN:N.In w):
  Calls prog 35 #[N.v] w fun e w'=>e=.returned (.int .i64 (dH N.l))∧w'=w:=by
 have HN:=ab hN;have je:=hN.max;have tz:=hN.cap;unfold maxLen at je;have iu:=hN.at_;clear hN;obtain⟨xa,gb,ob,cap,l⟩:=N;simp only at je tz iu;unfold NL.v;simp only;obtain⟨n,hn⟩:∃n,n=l.length:=⟨_,rfl⟩;rw[←hn] at tz iu ⊢;have HL:=ab hn;clear hn;go_enter func35,ntmps35;go_wp2_with fail;go_loop [7] (fun i=>∃k:Nat,k≤n∧i=.int .i64 (k:Int)∧Hid ((l.take k).all ca=true)) (fun i=>n - (intOf i).toNat)
 case atStart=>exact⟨0,by omega,rfl,rfl⟩
 case round=>
  obtain⟨k,hk,rfl,HT⟩:=hrel;rcases cG k n with au | gD
  ·obtain⟨t,ht⟩:∃t,l[k]? =some t:=⟨l[k]'(by have:=aa HL;omega),gT _⟩
   obtain⟨ct,oX⟩:=(aa HN).cell k t ht;simp only at ct;have l4:=iu (by omega)
   subst l4;have ml:=ab (qF t w oX);have bL:=ab (fun h=>LS (aa HT) ht h)
   have ap:=ab (fun h=>Nf ht h)
   clear ht oX;have jA:=wh (g:=gb) (o:=ob) (cap:=cap) (i:=k) (n:=n) underlying28 wO au
   cases hq:ca t
   ·have HE:Hid (dH l=7):=ab (by unfold dH;rw[aa ap hq];rfl)
    rw[hq] at ml;clear hq bL ap;go_wp2_with fail;refine(aa ml).mono ?_;rintro e w1 ⟨rfl,rfl⟩;go_wp2_with fail;go_ret;exact⟨by rw[aa HE];rfl,rfl⟩
   ·have HA:=ab (aa bL hq)
    rw[hq] at ml;clear hq bL ap;go_wp2_with fail;refine(aa ml).mono ?_;rintro e w1 ⟨rfl,rfl⟩;go_wp2_with fail;exact⟨⟨k+1,by omega,rfl,aa HA⟩,by simp[intOf];omega⟩
  ·obtain rfl:k=n:=by omega
   have HE:Hid (dH l=0):=ab (by
    have h:=aa HT;rw[aa HL,yH] at h;unfold dH;rw[h];rfl)
   go_wp2_with fail;go_ret;exact⟨by rw[aa HE];rfl,rfl⟩
def ek:List Int→Int
 | []=>0
 | x::l=>if x=0 then ek l else x
theorem JW {l:List Int} {k:Nat} {x:Int} (h:ek l=ek (l.drop k)) (hx:l[k]? =some x):(x=0→ek l=ek (l.drop (k+1)))∧(x≠0→ek l=x):=by
 have hk:k < l.length:=(mG.1 hx).1;have e:l.drop k=x::l.drop (k+1):=by
  rw[yG hk]
  congr 1
  rw[gT hk] at hx;exact lK hx
 rw[h,e];exact⟨fun z=>af z,fun z=>ac z⟩
theorem xP (l:List Int) (g:Nat) (w:World) (hl:l.length≤8) (hc:∀i x,l[i]? =some x→w.cell? ⟨g,i,none⟩=some (.int .i64 x)):
  Calls prog 32 #[.slice (some ⟨g,0,none⟩) l.length l.length] w fun e w'=>e=.returned (.int .i64 (ek l))∧w'=w:=by
 have HC:=ab hc;clear hc;obtain⟨n,hn⟩:∃n,n=l.length:=⟨_,rfl⟩;rw[←hn] at hl ⊢;have HL:=ab hn;clear hn;go_enter func32,ntmps32;go_wp2_with fail;go_loop [7] (fun i=>∃k:Nat,k≤n∧i=.int .i64 (k:Int)∧Hid (ek l=ek (l.drop k))) (fun i=>n - (intOf i).toNat)
 case atStart=>exact⟨0,by omega,rfl,rfl⟩
 case round=>
  obtain⟨k,hk,rfl,HT⟩:=hrel;rcases cG k n with au | gD
  ·obtain⟨x,hx⟩:∃x,l[k]? =some x:=⟨l[k]'(by have:=aa HL;omega),gT _⟩
   have ct:=aa HC k x hx;have HS:=ab (JW (aa HT) hx);clear hx;have jA:=wh (g:=g) (o:=0) (cap:=n) (i:=k) (n:=n) underlying113 Jm au;rw[ni] at jA
   by_cases hq:x=0
   ·have HA:=ab ((aa HS).1 hq)
    have q:(x==0)=true:=bt hq;clear hq HS;go_wp2_with fail;exact⟨⟨k+1,by omega,rfl,aa HA⟩,by simp[intOf];omega⟩
   ·have HA:=ab ((aa HS).2 hq)
    have q:(x==0)=false:=bn hq;clear hq HS;go_wp2_with fail;go_ret;exact⟨by rw[aa HA];rfl,rfl⟩
  ·obtain rfl:k=n:=by omega
   have HE:Hid (ek l=0):=ab (by
    have h:=aa HT;rw[aa HL,List.drop_length] at h;exact h)
   go_wp2_with fail;go_ret;exact⟨by rw[aa HE];rfl,rfl⟩
open Go.RowKit
structure WX (z:Nat) (w w':World) (v v':Value):Prop where
 os:w'.os=w.os
 tape:w'.tape=w.tape
 output:w'.output=w.output
 size:w.heap.size≤w'.heap.size
 block:∀k,k < w.heap.size→k≠z→some k≠v.ownBlock→w'.heap[k]? =w.heap[k]?
 lies:v'.ownBlock=v.ownBlock∨∀k,v'.ownBlock=some k→w.heap.size≤k
section
variable {z:Nat} {a b c w w':World} {v v1 v2 v3:Value}
theorem WX.refl (z:Nat) (w:World) (v:Value):WX z w w v v:=⟨rfl,rfl,rfl,aw _,fun _ _ _ _=>rfl,.inl rfl⟩
theorem WX.trans (h:WX z a b v1 v2) (k:WX z b c v2 v3):WX z a c v1 v3:=by
 refine⟨k.os.trans h.os,k.tape.trans h.tape,k.output.trans h.output,bv h.size k.size,fun i hi h1 h2=> ?_, ?_⟩
 ·refine(k.block i (gL hi h.size) h1 fun e=> ?_).trans (h.block i hi h1 h2)
  rcases h.lies with x | x
  ·exact h2 (e.trans x)
  ·have:=x i e.symm
   omega
 ·rcases k.lies with x | x
  ·rcases h.lies with y | y
   ·exact .inl (x.trans y)
   ·exact .inr fun q hq=>y q (x▸hq)
  ·exact .inr fun q hq=>bv h.size (x q hq)
theorem WX.of_ext (h:Ext w w' v v1):WX z w w' v v1:=⟨h.grown.os,h.grown.tape,h.grown.output,h.grown.size,fun k h1 _ h2=>h.grown.block k h1 h2,h.lies⟩
theorem WX.below (h:Below w.heap.size w w'):WX z w w' v v:=⟨h.os,h.tape,h.output,h.size,fun k h1 _ _=>h.block k h1,.inl rfl⟩
theorem WX.set (h:WX z a b v1 v2) (k:Nat) (u:Value):WX z a (b.setCell ⟨z,k,none⟩ u) v1 v2:=
 ⟨h.os,h.tape,h.output,by rw[og];exact h.size,fun i h1 h2 h3=>(dh b ⟨z,k,none⟩ i u h2).trans (h.block i h1 h2 h3),h.lies⟩
end
theorem DU {W W':World} {B e size n:Nat} {v:Value} {xs:List Value} (h:W.ownsRow B e size v n xs) (hb:∀k,v.ownBlock=some k→W'.heap[k]? =W.heap[k]?):W'.ownsRow B e size v n xs:=by
 refine⟨h.1, ?_⟩;rcases h.2 with h | ⟨g,cap,cur,rfl,h1,h2,h3⟩
 ·exact .inl h
 ·exact .inr ⟨g,cap,cur,rfl,h1,(hb g rfl).trans h2,h3⟩
structure WrI (B z:Nat) (w:World) (v:Value) (o:List UInt8) (f:Bool):Prop where
 blk:w.heap[z]? =some (.cells #[v,.bool f] 59 (0,0))
 row:aZ w B v o
 low:z < B
 lt:B≤w.heap.size
section
variable {B z:Nat} {w w':World} {v v':Value} {o:List UInt8} {f:Bool}
theorem WrI.c0 (h:WrI B z w v o f):w.cell? ⟨z,0,none⟩=some v:=cr h.blk
theorem WrI.c1 (h:WrI B z w v o f):w.cell? ⟨z,1,none⟩=some (.bool f):=cr h.blk
theorem WrI.fz (h:WrI B z w v o f) (k:Nat):w.frozen? ⟨z,k,none⟩=false:=cN w z k _ _ h.blk
theorem WrI.nz (h:WrI B z w v o f):some z≠v.ownBlock:=fun e=>by
 have:=(uO h.row z e.symm).1;have:=h.low;omega
theorem WrI.below (h:WrI B z w v o f) (hb:Below w.heap.size w w'):WrI B z w' v o f:=⟨an h.blk hb,h.row.later hb,h.low,bv h.lt hb.size⟩
theorem WrI.feed (h:WrI B z w v o f) (g:Bool):WrI B z (w.setCell ⟨z,1,none⟩ (.bool g)) v o g:=by
 have hb:∀k,v.ownBlock=some k→(w.setCell ⟨z,1,none⟩ (.bool g)).heap[k]? =w.heap[k]? :=fun k hk=>dh w ⟨z,1,none⟩ k _ fun e=>h.nz (by rw[hk];exact aD some e.symm)
 exact⟨fB w z 1 _ _ _ h.blk,DU h.row hb,h.low,by rw[og];exact h.lt⟩
theorem WrI.grow (h:WrI B z w v o f) (hE:Ext w w' v v') {o':List UInt8} (hB:aZ w' B v' o'):WrI B z (w'.setCell ⟨z,0,none⟩ v') v' o' f:=by
 have hz:=hE.row h.nz h.blk;have hn:∀k,v'.ownBlock=some k→k≠z:=fun k hk e=>by
  have:=(uO hB k hk).1;have:=h.low;omega
 have hb:∀k,v'.ownBlock=some k→(w'.setCell ⟨z,0,none⟩ v').heap[k]? =w'.heap[k]? :=fun k hk=>dh w' ⟨z,0,none⟩ k _ (hn k hk)
 exact⟨fB w' z 0 _ _ _ hz,DU hB hb,h.low,by rw[og];exact bv h.lt hE.grown.size⟩
end
def bH (l:List ByteArray):List UInt8:=l.flatMap fun t=>t.data.toList
theorem kx (t:ByteArray) (l:List ByteArray):bH (t::l)=t.data.toList++bH l:=rfl
theorem LF (l:List ByteArray) (t:ByteArray):bH (l++[t])=bH l++t.data.toList:=by unfold bH;rw[List.flatMap_append];simp
def eu (l:List UInt8):Bool:=l.contains 10
theorem DZ (a b:List UInt8):eu (a++b)=(eu a || eu b):=by
 unfold eu;rw[uP];simp
theorem Eh:∀l:List UInt8,(Lib.index l [10]= -1∧eu l=false)∨(0≤Lib.index l [10]∧eu l=true)
 | []=>.inl ⟨rfl,rfl⟩
 | b::l=>by
  have hp:([10]:List UInt8).isPrefixOf (b::l)=((10:UInt8)==b):=by
   show ((10:UInt8)==b && List.isPrefixOf [] l)=_;rw[show List.isPrefixOf ([]:List UInt8) l=true from by cases l <;> rfl,Bool.and_true]
  have hc:eu (b::l)=(((10:UInt8)==b) || eu l):=by unfold eu;rfl
  unfold Lib.index;rw[hp,hc]
  by_cases q:(10:UInt8)==b
  ·rw[af q,q];exact .inr ⟨by decide,rfl⟩
  ·rw[ac q,Bool.eq_false_iff.2 q,xE]
   rcases Eh l with ⟨h1,h2⟩ | ⟨h1,h2⟩
   ·rw[h1,h2];exact .inl ⟨rfl,rfl⟩
   ·have:(Lib.index l [10]== -1)=false:=bn
    rw[this,h2];exact .inr ⟨by show 0≤Lib.index l [10]+1;omega,rfl⟩
theorem Fb (l:List UInt8):Lib.contains l [10]=eu l:=by
 unfold Lib.contains;rcases Eh l with ⟨h1,h2⟩ | ⟨h1,h2⟩
 ·rw[h1,h2];rfl
 ·rw[h2,fk h1]
open Go.RowKit
theorem rI {w:World} {B:Nat} {v:Value} {l:List UInt8} (h:aZ w B v l):∃a cap,v=.slice a l.length cap:=by
 rcases h.2 with ⟨rfl,e⟩ | ⟨g,cap,cur,rfl, -⟩
 ·exact⟨none,0,by rw[e]⟩
 ·exact⟨_,cap,rfl⟩
theorem LE {l:List ByteArray} {i:Nat} {t:ByteArray} (ht:l[i]? =some t):bH (l.take (i+1))=bH (l.take i)++t.data.toList:=by
 rw[xB,ht];exact LF _ _
theorem Ff:∀(l:List ByteArray),(∀t ∈ l,t.size≤200000)→(bH l).length≤200000 * l.length
 | [],_=>aw _
 | t::l,h=>by
  have h1:=h t (by simp)
  have ih:=Ff l fun x hx=>h x (kH _ hx)
  rw[kx,be,List.length_cons];have:t.data.toList.length=t.size:=by simp
  omega
def tc (B z:Nat) (w:World) (v:Value) (o t:List UInt8) (f:Bool) (w':World):Prop:=∃v',WX z w w' v v'∧WrI B z w' v' (o++t) (f || eu t)
theorem Mn (N:NL) {B z:Nat} {v:Value} {o:List UInt8} {f:Bool} (w:World) (hW:WrI B z w v o f) (hN:N.In w) (hg:N.gb≠z∧some N.gb≠v.ownBlock) (hs:∀t ∈ N.l,t.size≤200000) (hl:N.l.length≤11) (ho:o.length≤10000000)
  (m:Int) (hm:w.cell? ⟨2,0,none⟩=some (.int .i64 m)) (hmz:(2:Nat) < z):
  Calls prog 42 #[.pointer (some ⟨z,0,none⟩),N.v] w fun e w'=>e=.returned (.tuple #[])∧tc B z w v o (bH N.l) f w':=by
 have HN:=ab hN;have HG:=ab hg;have HS:=ab hs;have HO:=ab (And.intro ho hl);have iu:=hN.at_;have HLK:=ab (fun (wr:World) (v':Value) (hx:WX z w wr v v') (h:WrI B z wr v' o f∨True)=>show wr.cell? ⟨2,0,none⟩=some (.int .i64 m) from by
  have au:=da _ _ hm;have e:=hx.block 2 au (by omega) (fun e=>by
   have h1:=(uO hW.row _ e.symm).1;have h2:=hW.low;have:(2:Nat) < z:=hmz;omega)
  rw[←hm];unfold World.cell?;rw[e])
 have H0:Hid (tc B z w v o (bH (N.l.take 0)) f w):=ab (⟨v,WX.refl _ _ _,by
  rw[show bH (N.l.take 0)=[] from by simp[bH],lf,show eu []=false from rfl,Bool.or_false];exact hW⟩)
 obtain⟨n,hn⟩:∃n,n=N.l.length:=⟨_,rfl⟩;have HNL:=ab hn;have je:n≤11:=by rw[hn];exact hl
 have HCE:=ab (fun (i:Nat) (t:ByteArray) (wr:World) (v':Value) (ht:N.l[i]? =some t) (hx:WX z w wr v v')=>show wr.cell? ⟨N.gb,N.ob+i,none⟩=some (.string t) from by
  have hc:=(hN.cell i t ht).1;have e:=hx.block N.gb (da _ _ hc) hg.1 hg.2;rw[←hc];unfold World.cell?;rw[e])
 clear hW hN hg hs ho hm hl hmz;unfold NL.v;rw[←hn] at iu ⊢;clear hn;have HNC:=ab (aa HN).cap;generalize l4:N.xa=xa at *;generalize tz:N.cap=cap at *;clear l4 tz;go_enter func42,ntmps42;go_wp2_with fail;go_loopw [8] (fun u wr=>∃i:Nat,i≤n∧u=.int .i64 (i:Int)∧Hid (tc B z w v o (bH (N.l.take i)) f wr)) (fun u _=>n - (intOf u).toNat)
 case atStart=>exact⟨0,cU _,rfl,aa H0⟩
 case round=>
  obtain⟨i,hi,rfl,HI⟩:=hrel;rcases cG i n with au | gD
  ·obtain⟨t,ht⟩:∃t,N.l[i]? =some t:=⟨N.l[i]'(by have:=aa HNL;omega),gT _⟩
   have l4:=iu (by omega)
   subst l4;obtain⟨v',hx,hwi⟩:=aa HI;have ct:=aa HCE i t wr v' ht hx;have oX:t.size≤200000:=aa HS t (oS ht);have ov:=Ff (N.l.take i) fun x hx=>aa HS x (List.mem_of_mem_take hx)
   rw[List.length_take] at ov;have iJ:Hid ((o++bH (N.l.take i)).length+t.size≤100000000):=ab (by rw[be];have:=(aa HO).1;omega)
   have jA:=wh (g:=N.gb) (o:=N.ob) (cap:=cap) (i:=i) (n:=n) underlying28 wO au;have HCT:Hid (Calls prog 79 #[.string t,.string ⟨#[10]⟩] wr fun e w'=>e=.returned (.bool (eu t.data.toList))∧w'=wr):=ab (Fb t.data.toList▸Tryz.strings_Contains t ⟨#[10]⟩ m wr (by omega) (aa HLK wr v' hx (.inr trivial)))
   have kR:Hid (∀w' v'',WX z wr w' v' v''→WrI B z w' v'' ((o++bH (N.l.take i))++t.data.toList) ((f || eu (bH (N.l.take i))) || eu t.data.toList)→tc B z w v o (bH (N.l.take (i+1))) f w'):=ab (fun w' v'' h1 h2=>⟨v'',hx.trans h1,by rw[LE ht,DZ,←fT,←Bool.or_assoc];exact h2⟩)
   have HWI:=ab hwi;have c1:=hwi.c1;have c0:=hwi.c0;have f1:=hwi.fz 1;clear ht ov hx oX HI H0 hwi;generalize o++bH (N.l.take i)=oo at *;generalize (f || eu (bH (N.l.take i)))=ff at *;generalize eu t.data.toList=nt at *
   cases ff
   ·go_wp2_with fail
    refine(aa HCT).mono ?_;rintro e wr ⟨rfl,rfl⟩;clear HCT c0;have c1:=(aa HWI).c1;have f1:=(aa HWI).fz 1;have HF:=ab ((aa HWI).feed nt);have HXF:=ab ((WX.refl z wr v').set 1 (.bool nt));obtain⟨xa,cp,nA⟩:=rI (aa HWI).row;subst nA;have d0:=(aa HF).c0;rw[xE] at kR;go_wp2_with (first
     | (refine rL rfl _ _ rfl B (.slice xa oo.length cp) oo t rfl rfl (by with_reducible exact(aa HF).row) (aa HF).lt (aa iJ) ?_;intro v2 w2 kN rj;obtain⟨a2,c2,hv2⟩:=rI kN;obtain⟨n2,j7⟩:∃n2,n2=(oo++t.data.toList).length:=⟨_,rfl⟩;rw[←j7] at hv2;clear j7;subst hv2;have qA:=ab ((aa HF).grow rj kN);have eE:=ab (((aa HXF).trans (WX.of_ext (z:=z) rj)).set 0 (.slice a2 n2 c2));have k0:=eB _ z 0 _ _ _ (rj.row (aa HF).nz (aa HF).blk);have k1:=cN w2 z 0 _ _ (rj.row (aa HF).nz (aa HF).blk);clear kN rj)
     | fail)
    exact⟨⟨i+1,by omega,rfl,aa kR _ _ (aa eE) (aa qA)⟩,by simp[intOf];omega⟩
   ·rw[Bool.true_or] at kR
    clear HCT c0;have HF:=ab ((aa HWI).feed true);have HXF:=ab ((WX.refl z wr v').set 1 (.bool true));obtain⟨xa,cp,nA⟩:=rI (aa HWI).row;subst nA;have d0:=(aa HF).c0;go_wp2_with (first
     | (refine rL rfl _ _ rfl B (.slice xa oo.length cp) oo t rfl rfl (by with_reducible exact(aa HF).row) (aa HF).lt (aa iJ) ?_;intro v2 w2 kN rj;obtain⟨a2,c2,hv2⟩:=rI kN;obtain⟨n2,j7⟩:∃n2,n2=(oo++t.data.toList).length:=⟨_,rfl⟩;rw[←j7] at hv2;clear j7;subst hv2;have qA:=ab ((aa HF).grow rj kN);have eE:=ab (((aa HXF).trans (WX.of_ext (z:=z) rj)).set 0 (.slice a2 n2 c2));have k0:=eB _ z 0 _ _ _ (rj.row (aa HF).nz (aa HF).blk);have k1:=cN w2 z 0 _ _ (rj.row (aa HF).nz (aa HF).blk);clear kN rj)
     | fail)
    exact⟨⟨i+1,by omega,rfl,aa kR _ _ (aa eE) (aa qA)⟩,by simp[intOf];omega⟩
  ·obtain rfl:i=n:=by omega
   have HE:=ab (aa HI);have HNL2:Hid (tc B z w v o (bH N.l) f wr):=ab (by have h:=aa HE;rw[aa HNL,yH] at h;exact h)
   clear HI HE;go_wp2_with fail;go_end0;exact⟨rfl,aa HNL2⟩
end Go.Proofs.YtlmnjbipfacniaaGreatDoor
namespace Go.Proofs
open Go.Shelf Go.RowKit Go.Lib Go.Sort
def Tryz.laysM173_ren:Go.Shelf.Ren:=⟨fun | 173=>127 | 246=>144 | 283=>160 | 284=>161 | 285=>162 | 286=>163 | 129=>172 | 317=>171 | 318=>173 | 319=>174 | 320=>175 | 337=>181 | 338=>182 | n=>n,fun | 2=>2 | 3=>3 | 9=>9 | 4=>4 | 171=>192 | 0=>0 | 53=>187 | 37=>48 | 5=>5 | 173=>195 | 212=>203 | 51=>199 | 20=>20 | 213=>204 | 46=>190 | 232=>215 | 233=>216 | n=>n,fun | 17=>3 | 18=>6 | 19=>7 | n=>n⟩
theorem Tryz.laysM173:Go.Proofs.LaysM.n173 Tryz.prog Tryz.laysM173_ren:={
 mixed:=by kernel_rfl
 f129:=Tryz.func172.trans (congrArg some (by kernel_rfl))
 f173:=Tryz.func127.trans (congrArg some (by kernel_rfl))
 f246:=Tryz.func144.trans (congrArg some (by kernel_rfl))
 f283:=Tryz.func160.trans (congrArg some (by kernel_rfl))
 f284:=Tryz.func161.trans (congrArg some (by kernel_rfl))
 f285:=Tryz.func162.trans (congrArg some (by kernel_rfl))
 f286:=Tryz.func163.trans (congrArg some (by kernel_rfl))
 f317:=Tryz.func171.trans (congrArg some (by kernel_rfl))
 f318:=Tryz.func173.trans (congrArg some (by kernel_rfl))
 f319:=Tryz.func174.trans (congrArg some (by kernel_rfl))
 f320:=Tryz.func175.trans (congrArg some (by kernel_rfl))
 f337:=Tryz.func181.trans (congrArg some (by kernel_rfl))
 f338:=Tryz.func182.trans (congrArg some (by kernel_rfl))
 t0:=Tryz.underlying0
 a0:=Tryz.isAgg0
 z0:=Tryz.sizeOf0
 v0:=Tryz.zeroValue0
 t2:=Tryz.underlying2
 a2:=Tryz.isAgg2
 z2:=Tryz.sizeOf2
 v2:=Tryz.zeroValue2
 t3:=Tryz.underlying3
 a3:=Tryz.isAgg3
 z3:=Tryz.sizeOf3
 v3:=Tryz.zeroValue3
 t4:=Tryz.underlying4
 a4:=Tryz.isAgg4
 z4:=Tryz.sizeOf4
 v4:=Tryz.zeroValue4
 t5:=Tryz.underlying5
 a5:=Tryz.isAgg5
 z5:=Tryz.sizeOf5
 v5:=Tryz.zeroValue5
 t9:=Tryz.underlying9
 a9:=Tryz.isAgg9
 z9:=Tryz.sizeOf9
 v9:=Tryz.zeroValue9
 t20:=Tryz.underlying20
 a20:=Tryz.isAgg20
 z20:=Tryz.sizeOf20
 v20:=Tryz.zeroValue20
 t37:=Tryz.underlying48
 a37:=Tryz.isAgg48
 z37:=Tryz.sizeOf48
 v37:=Tryz.zeroValue48
 t46:=Tryz.underlying190
 a46:=Tryz.isAgg190
 z46:=Tryz.sizeOf190
 v46:=Tryz.zeroValue190
 t51:=Tryz.underlying199
 a51:=Tryz.isAgg199
 z51:=Tryz.sizeOf199
 v51:=Tryz.zeroValue199
 t53:=Tryz.underlying187
 a53:=Tryz.isAgg187
 z53:=Tryz.sizeOf187
 v53:=Tryz.zeroValue187
 t171:=Tryz.underlying192
 a171:=Tryz.isAgg192
 z171:=Tryz.sizeOf192
 v171:=Tryz.zeroValue192
 t173:=Tryz.underlying195
 a173:=Tryz.isAgg195
 z173:=Tryz.sizeOf195
 v173:=Tryz.zeroValue195
 t212:=Tryz.underlying203
 a212:=Tryz.isAgg203
 z212:=Tryz.sizeOf203
 v212:=Tryz.zeroValue203
 t213:=Tryz.underlying204
 a213:=Tryz.isAgg204
 z213:=Tryz.sizeOf204
 t232:=Tryz.underlying215
 a232:=Tryz.isAgg215
 z232:=Tryz.sizeOf215
 v232:=Tryz.zeroValue215
 t233:=Tryz.underlying216
 a233:=Tryz.isAgg216
 z233:=Tryz.sizeOf216
 v233:=Tryz.zeroValue216
 g17:=by kernel_rfl
 g18:=by kernel_rfl
 g19:=by kernel_rfl
 i0:=by kernel_rfl
 i2:=by kernel_rfl
 i3:=by kernel_rfl
 i4:=by kernel_rfl
 i5:=by kernel_rfl
 i9:=by kernel_rfl
 i20:=by kernel_rfl
 i37:=by kernel_rfl
 i46:=by kernel_rfl
 i51:=by kernel_rfl
 i53:=by kernel_rfl
 i171:=by kernel_rfl
 i173:=by kernel_rfl
 i212:=by kernel_rfl
 i232:=by kernel_rfl
 i233:=by kernel_rfl
 m17:=by kernel_rfl
 m18:=by kernel_rfl
 m19:=by kernel_rfl}
theorem Tryz.strconv_FormatInt_10 (n:Int) (h0: -9223372036854775808≤n) (h1:n≤9223372036854775807) (w:World) (htab:Lib.TabIs Tryz.prog w "internal/strconv.uint64pow10" .u64 Lib.pow10Tab):
  Calls Tryz.prog 127 #[.int .i64 n,.int .i64 10] w fun e w'=>e=.returned (.string ⟨(Lib.itoa n).toArray⟩)∧∃k os,w'=grow (w.drewN k) os:=Any.strconv_FormatInt_10 Tryz.laysM173 n h0 h1 w htab
end Go.Proofs
namespace Go.Proofs.YtlmnjbipfacniaaGreatDoor
open Go.Proofs.Tryz
open Go.RowKit
theorem EF (c:UInt8) (new:List UInt8):∀s:List UInt8,Lib.replaceK [c] new (s.count c) s=s.flatMap fun x=>if x=c then new else [x]
 | []=>rfl
 | b::l=>by
  have ih:=EF c new l;rw[gU]
  by_cases hb:b=c
  ·subst hb
   have h0:Lib.index (b::l) [b]=((0:Nat):Int):=by simp[Lib.index]
   rw[List.count_cons_self,Lib.replaceK_hit [b] new _ _ 0 h0,af rfl];show []++new++Lib.replaceK [b] new (l.count b) l=_;rw[ih];rfl
  ·rw[List.count_cons_of_ne hb,ac hb]
   cases hk:l.count c with
   | zero=>
    rw[hk] at ih;show b::l=[b]++_;rw[←ih];rfl
   | succ k=>
    obtain⟨i,hi⟩:=Lib.index_of_count (s:=l) (old:=[c]) (by rw[Lib.count_one];omega)
    have h1:Lib.index (b::l) [c]=((i+1:Nat):Int):=by
     have hp:[c].isPrefixOf (b::l)=false:=by simp[List.isPrefixOf];exact fun e=>hb e.symm
     rw[Lib.index,hp,hi];have:((i:Int)== -1)=false:=bn;simp[this]
    rw[Lib.replaceK_hit [c] new k _ _ h1];rw[hk,Lib.replaceK_hit [c] new k l i hi] at ih;rw[←ih];rfl
theorem GV (l:List UInt8):Lib.replaceAll l [39] [39,39]=l.flatMap fun c=>if c=39 then [39,39] else [c]:=by
 unfold Lib.replaceAll Lib.replace Lib.replaceNum;rw[ac (by decide),af (.inl (by decide)),Lib.count_one]
 exact EF 39 [39,39] l
def fI (s:ByteArray):ByteArray:=⟨(et s.data.toList).toArray⟩
theorem A2 (s:ByteArray) (w:World) (hs:s.size≤65536) (m:Int) (hm:w.cell? ⟨2,0,none⟩=some (.int .i64 m)):
  Calls prog 76 #[.string s] w fun e w'=>e=.returned (.string (fI s))∧Below w.heap.size w w':=by
 have hr:=fun W hW=>Tryz.strings_ReplaceAll s ⟨#[39]⟩ ⟨#[39,39]⟩ m W (by omega) hW (by decide) (by have:=Lib.countB_le ⟨#[39]⟩ (by decide) s.size s (aw _);show s.size+_ * 2≤_;omega)
 have HR:=ab hr;have HM:=ab hm;clear hr hm;go_enter func76,ntmps76;go_wp2_with fail;refine(aa HR _ (aa HM)).mono ?_;rintro e w1 ⟨rfl,hb⟩;obtain⟨r,hrr⟩:∃r,r=(⟨(Lib.replaceAll s.data.toList (⟨#[39]⟩:ByteArray).data.toList (⟨#[39,39]⟩:ByteArray).data.toList).toArray⟩:ByteArray):=⟨_,rfl⟩;rw[←hrr];have hq:fI s=⟨#[39]⟩++r++⟨#[39]⟩:=by
  rw[hrr];show fI s=⟨#[39]⟩++⟨(Lib.replaceAll s.data.toList [39] [39,39]).toArray⟩++⟨#[39]⟩;rw[GV];apply ByteArray.ext;apply Array.ext';simp[fI,et]
 have ay:(fI s).size=r.size+2:=by rw[hq,ws,ws];show 1+r.size+1=_;omega
 have hsq:(fI s).size≤131074:=by
  have h1:=AT s.data.toList;have h2:s.data.toList.length=s.size:=by simp
  have h3:(fI s).size=(et s.data.toList).length:=by simp[fI,ByteArray.size]
  omega
 have g1:¬9223372036854775807 < 1+r.size:=by omega
 have g2:¬9223372036854775807 < 1+r.size+1:=by omega
 have HQ:=ab hq;have HB:=ab hb;clear hrr hq ay hsq hb;go_wp2_with fail;go_ret;exact⟨by rw[aa HQ];rfl,aa HB⟩
theorem AQ (s:ByteArray) (hs:s.size≤65536):(fI s).size≤131074:=by
 have h1:=AT s.data.toList;have h2:s.data.toList.length=s.size:=by simp
 have h3:(fI s).size=(et s.data.toList).length:=by simp[fI,ByteArray.size]
 omega
theorem y6 (p k:Int) (w:World):Calls prog 123 #[.int .i64 p,.int .i64 k] w fun e w'=>e=.returned (.bool (lc p k))∧w'=w:=by
 by_cases h1:k=19
 ·have e1:(k==19)=true:=bt h1
  have HB:Hid (lc p k=true):=ab (by unfold lc;simp[h1])
  clear h1;go_enter func123,ntmps123;go_wp2_with fail;go_ret;exact⟨by rw[aa HB];rfl,rfl⟩
 ·have e1:(k==19)=false:=bn h1
  by_cases h2:k=18
  ·have e2:(k==18)=true:=bt h2
   by_cases h3:p=19
   ·have e3:(p !=19)=false:=by rw[bne_eq_false_iff_eq];exact h3
    have HB:Hid (lc p k=false):=ab (by unfold lc;simp[h1,h3])
    clear h1 h2 h3;go_enter func123,ntmps123;go_wp2_with fail;go_ret;exact⟨by rw[aa HB];rfl,rfl⟩
   ·have e3:(p !=19)=true:=by rw[sf];exact h3
    have HB:Hid (lc p k=true):=ab (by unfold lc;simp[h2,h3])
    clear h1 h2 h3;go_enter func123,ntmps123;go_wp2_with fail;go_ret;exact⟨by rw[aa HB];rfl,rfl⟩
  ·have e2:(k==18)=false:=bn h2
   have HB:Hid (lc p k=false):=ab (by unfold lc;simp[h1,h2])
   clear h1 h2;go_enter func123,ntmps123;go_wp2_with fail;go_ret;exact⟨by rw[aa HB];rfl,rfl⟩
end Go.Proofs.YtlmnjbipfacniaaGreatDoor
