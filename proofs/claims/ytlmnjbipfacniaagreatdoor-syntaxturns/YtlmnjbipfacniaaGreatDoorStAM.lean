/- Expressions lie in memory as patterns do (five cells a node) -/
import Derived.Test.YtlmnjbipfacniaaGreatDoorPatSizeP
set_option maxRecDepth 100000
set_option maxHeartbeats 1000000
namespace Go.Proofs.YtlmnjbipfacniaaGreatDoor
open Go.Proofs.Tryz
open Go.RowKit
theorem JK:(prog.info? 24).map (·.size)=some 5:=by kernel_rfl
theorem mu {W:World} {T:PT} (hT:T.In W) {k:Nat} (hk:k < T.len) (w:World):
  (Instr.indexAt 22 (.slice T.xa T.len T.cap) (.int .i64 (k:Int))).run prog w=.ok (.pointer (some ⟨T.b,T.o+k * 5,none⟩)) w:=by
 rw[hT.addr (by omega)]
 have h0:(0:Int)≤(k:Int)∧(k:Int) < (T.len:Int):=by omega
 have hs:=JK
 cases hq:prog.info? 24 with
 | none=>simp[hq] at hs
 | some i=>
  have hz:i.size=5:=by simpa [hq] using hs
  simp[Instr.indexAt,asIntOf,run_underlying underlying22,h0,sizeOf,typeInfo,hq,hz,Addr.add_lit];intro h;omega
def Ao (a:Nat):Obj:=.cells #[.int .i64 (a:Int)] 3 (0,0)
def NQ (T:PT) (g a d:Nat) (w:World) (e:Ending) (w':World):Prop:=∃ok a',e=.returned (.bool ok)∧w'.heap[g]? =some (Ao a')∧But g w w'∧
  (ok=true→a'=a+T.cnt∧d+T.dep - 1≤200∧a'≤4096)∧(ok=false→4096 < a+T.cnt∨200 < d+T.dep - 1)
def B3 (T:PT):Prop:=∀(W w:World) (g a d:Nat),T.In W→Below W.heap.size W w→W.heap.size≤g→w.heap[g]? =some (Ao a)→a≤4096→d≤201→∀x:Int,x=(d:Int)→
 Calls prog 57 #[.agg #[.int .i64 T.k,.string T.t,.int .i64 T.n,.string T.nm,.slice T.xa T.len T.cap],.int .i64 x,.pointer (some ⟨g,0,none⟩)] w fun e w'=>NQ T g a d w e w'
theorem MH (w:World) (g a:Nat) (x:Value) (h:w.heap[g]? =some (Ao a)):
  (w.setCell ⟨g,0,none⟩ x).heap[g]? =some (.cells #[x] 3 (0,0)):=by
 have h1:=fK w g 0 _ _ x h
 simpa using h1
theorem LY (T:PT) (ih:∀i,i < T.len→B3 (T.kid i)):B3 T:=by
 intro W w g a d hT bD hWg hg ha hd x hx;subst hx;have fm:=T.cnt_eq;have jL:=T.dep_eq;have jr:=hT.max;unfold maxLen at jr;have ks:g < w.heap.size:=(bC.1 hg).1;have hgn:¬g=w.heap.size:=by omega
 have hgm:¬w.heap.size=g:=by omega
 have c0:w.cell? ⟨g,0,none⟩=some (.int .i64 a):=by rw[eX w _ _ _ _ _ hg];rfl
 have f0:=cT w g 0 _ _ hg;have H2:=ab (MH w g a (.int .i64 ((a:Int)+1)) hg);have HD:=ab (And.intro fm (And.intro jL (And.intro hT (And.intro bD ih))));clear hg fm jL hT bD ih
 by_cases h1:4096 < a+1
 ·have h1':4096 < (a:Int)+1:=by omega
  go_enter func57,ntmps57;go_wp2_with fail;go_ret;refine⟨false,a+1,rfl,bL (by simpa using ks) (aa H2),((But.refl g w).setCell _ _).alloc _,by simp,fun _=>.inl ?_⟩
  have:=(aa HD).1;omega
 ·by_cases h2:200 < d
  ·have h1':¬4096 < (a:Int)+1:=by omega
   have h2':200 < (d:Int):=by omega
   go_enter func57,ntmps57;go_wp2_with fail;go_ret;refine⟨false,a+1,rfl,bL (by simpa using ks) (aa H2),((But.refl g w).setCell _ _).alloc _,by simp,fun _=>.inr ?_⟩
   have:=(aa HD).2.1;omega
  ·have h1':¬4096 < (a:Int)+1:=by omega
   have h2':¬200 < (d:Int):=by omega
   obtain⟨K,hK⟩:∃K,K=(Obj.cells #[.int .i64 T.k,.string T.t,.int .i64 T.n,.string T.nm,.slice T.xa T.len T.cap] 24):=⟨_,rfl⟩;have lN:=bL (o:=K) (by simpa using ks) (aa H2)
   have aZ:=((But.refl g w).setCell 0 (.int .i64 ((a:Int)+1))).alloc K;obtain⟨W0,lo⟩:∃W0,W0=((w.setCell ⟨g,0,none⟩ (.int .i64 ((a:Int)+1))).alloc K):=⟨_,rfl⟩;rw[←lo] at lN aZ;have HW:=ab lo;have HK:=ab hK;have aD:=ab aZ;have ao:=ab lN;have gh:=aZ.size;clear lo hK aZ lN;go_enter func57,ntmps57;go_wp2_with fail;rw[←aa HK,←aa HW];clear c0 f0 hgn hgm H2 h1';go_loopw [25] (fun i wr=>∃k A:Nat,k≤T.len∧i=.int .i64 (k:Int)∧wr.heap[g]? =some (Ao A)∧But g w wr∧A=a+1+eU (fun i=>(T.kid i).cnt) k∧d+jk (fun i=>(T.kid i).dep) k≤200∧A≤4096) (fun i _=>T.len - (intOf i).toNat)
   case atStart=>
    refine⟨0,a+1,by omega,rfl,aa ao,aa aD,rfl, ?_,by omega⟩
    simp only[jk];omega
   case round=>
    obtain⟨k,A,hk,rfl,pX,fO,hA,hB,hA1⟩:=hrel;rcases cX k T.len with hkt | hkt
    ·obtain⟨js,hdn,hT,bD,ih⟩:=aa HD
     have cz:=But.below bD fO hWg;have lm:=mu hT hkt;obtain⟨k0,k1,k2,k3,k4⟩:=hT.cells hkt;have k0:=av cz k0;have k1:=av cz k1;have k2:=av cz k2;have k3:=av cz k3;have k4:=av cz k4;unfold PT.kv at k4;have qE:g < wr.heap.size:=(bC.1 pX).1;have HI:=ab (ih k hkt W);have HT:=ab (hT.kids hkt);have HBW:=ab cz;have HGR:=ab pX;have jw:=ab fO;have nF:=ab (And.intro hA hB);clear js hdn hT bD ih cz pX fO hA hB;go_wp2_with fail;refine(aa HI _ g A (d+1) (aa HT) ((aa HBW).alloc (aa HBW).size _) hWg (bL qE (aa HGR)) hA1 (by omega) _ (by omega)).mono ?_
     rintro e w2 ⟨ok,a',rfl,fk,hb2,ht,hf⟩;have qf:=ab fk;have aF:=ab (((aa jw).alloc _).trans hb2);have vE:=ab (And.intro ht hf);clear fk hb2 ht hf
     cases ok
     ·go_wp2_with fail
      go_ret;refine⟨false,a',rfl,aa qf,aa aF,by simp,fun _=> ?_⟩
      obtain⟨js,hdn,_⟩:=aa HD;have e1:=wM (fun i=>(T.kid i).cnt) (show k+1≤T.len from hkt)
      have e2:=Em (fun i=>(T.kid i).dep) (show k+1≤T.len from hkt)
      simp only[eU,jk] at e1 e2;have h:=(aa vE).2 (by simp)
      have hA:=(aa nF).1;have hB:=(aa nF).2;omega
     ·go_wp2_with fail
      go_roundw
      case rel=>
       obtain⟨h1,h2,h3⟩:=(aa vE).1 (by simp)
       refine⟨k+1,a',by omega,by go_num,aa qf,aa aF, ?_, ?_,h3⟩
       ·have:=(aa nF).1
        simp only[eU];omega
       ·have:=(aa nF).2
        simp only[jk];omega
      case measure=>simp[intOf];omega
    ·have hk':k=T.len:=by omega
     have HGR:=ab pX;have jw:=ab fO;have nF:=ab (And.intro hA hB);clear pX fO hA hB;go_wp2_with fail;go_ret;refine⟨true,A,rfl,aa HGR,aa jw,fun _=> ?_,by simp⟩
     obtain⟨js,hdn,_⟩:=aa HD;have hA:=(aa nF).1;have hB:=(aa nF).2;rw[hk'] at hA hB;exact⟨by omega,by omega,hA1⟩
theorem Ns:∀T:PT,B3 T:=PT.ind LY
theorem sF (T:PT) (w:World) (hT:T.In w):
  Calls prog 24 #[pv T] w fun e w'=>e=.returned (.bool (!T.fits))∧Below w.heap.size w w':=by
 unfold pv;have HA:=ab (Ns T w);have HT:=ab hT;clear hT;go_enter func24,ntmps24;go_wp2_with fail;have bD:=((aW w.heap.size w).alloc (ax _) (.cells #[.int .i64 T.k,.string T.t,.int .i64 T.n,.string T.nm,.slice T.xa T.len T.cap] 24)).alloc (by simp) (.cells #[.int .i64 0] 3)
 refine(aa HA _ (w.heap.size+1) 0 1 (aa HT) bD (by omega) (aw (by simp)) (by omega) (by omega) _ rfl).mono ?_
 rintro e w1 ⟨ok,a',rfl,hg,hb,ht,hf⟩;have HB:=ab (But.below bD hb (by omega))
 have HS:Hid ((!T.fits)= !ok):=ab (by
  unfold PT.fits;have:=T.dep_pos
  cases ok
  ·have h:=hf rfl
   simp;omega
  ·have h:=ht rfl
   simp;omega)
 clear bD hb ht hf hg HA;go_wp2_with fail;go_ret;exact⟨by rw[aa HS];rfl,aa HB⟩
open Go.RowKit
structure NL where
 xa:Option Addr
 gb:Nat
 ob:Nat
 cap:Nat
 l:List ByteArray
def NL.v (N:NL):Value:=.slice N.xa N.l.length N.cap
structure NL.In (w:World) (N:NL):Prop where
 cap:N.l.length≤N.cap
 max:N.cap≤maxLen
 at_:0 < N.l.length→N.xa=some ⟨N.gb,N.ob,none⟩
 cell:∀i t,N.l[i]? =some t→w.cell? ⟨N.gb,N.ob+i,none⟩=some (.string t)∧t.size≤maxLen
theorem NL.In.later {w w':World} {N:NL} (h:N.In w) (hb:Below w.heap.size w w'):N.In w':=⟨h.cap,h.max,h.at_,fun i t ht=>⟨av hb (h.cell i t ht).1,(h.cell i t ht).2⟩⟩
def cV (l:List ByteArray):Int:=if l.all bp=true then 0 else 7
theorem Ml {l:List ByteArray} {k:Nat} (h:(l.take k).all bp=true) {t:ByteArray} (ht:l[k]? =some t) (hn:bp t=true):(l.take (k+1)).all bp=true:=by
 rw[List.take_add_one,ht];simp only[Option.toList_some,List.all_append,h,List.all_cons,hn,List.all_nil,Bool.and_self]
theorem NM {l:List ByteArray} {k:Nat} {t:ByteArray} (ht:l[k]? =some t) (hn:bp t=false):l.all bp=false:=by
 rw[←Bool.not_eq_true,rQ];intro h;rw[h t (rO ht)] at hn
 cases hn
theorem xd {t e:TypeId} {g o n cap i:Nat} (hu:prog.underlying t=some (.slice e)) (hs:(prog.info? e).map (·.size)=some 1) (hi:i < n) (w:World):
  (Instr.indexAt t (.slice (some ⟨g,o,none⟩) n cap) (.int .i64 (i:Int))).run prog w=.ok (.pointer (some ⟨g,o+i,none⟩)) w:=by
 have h0:(0:Int)≤(i:Int)∧(i:Int) < (n:Int):=by omega
 cases hq:prog.info? e with
 | none=>simp[hq] at hs
 | some x=>
  have hz:x.size=1:=by simpa [hq] using hs
  simp[Instr.indexAt,asIntOf,run_underlying hu,h0,sizeOf,typeInfo,hq,hz,Addr.add_lit];intro h;omega
theorem xR:(prog.info? 9).map (·.size)=some 1:=by kernel_rfl
theorem JL:(prog.info? 32).map (·.size)=some 1:=by kernel_rfl
theorem za (N:NL) (w:World) (hN:N.In w):
  Calls prog 35 #[N.v] w fun e w'=>e=.returned (.int .i64 (cV N.l))∧w'=w:=by
 have HN:=ab hN;have jr:=hN.max;have tA:=hN.cap;unfold maxLen at jr;have iG:=hN.at_;clear hN;obtain⟨xa,gb,ob,cap,l⟩:=N;simp only at jr tA iG;unfold NL.v;simp only;obtain⟨n,hn⟩:∃n,n=l.length:=⟨_,rfl⟩;rw[←hn] at tA iG ⊢;have HL:=ab hn;clear hn;go_enter func35,ntmps35;go_wp2_with fail;go_loop [7] (fun i=>∃k:Nat,k≤n∧i=.int .i64 (k:Int)∧Hid ((l.take k).all bp=true)) (fun i=>n - (intOf i).toNat)
 case atStart=>exact⟨0,by omega,rfl,rfl⟩
 case round=>
  obtain⟨k,hk,rfl,HT⟩:=hrel;rcases cX k n with au | jc
  ·obtain⟨t,ht⟩:∃t,l[k]? =some t:=⟨l[k]'(by have:=aa HL;omega),jH _⟩
   obtain⟨ct,pV⟩:=(aa HN).cell k t ht;simp only at ct;have oJ:=iG (by omega)
   subst oJ;have ml:=ab (qj t w pV);have bP:=ab (fun h=>Ml (aa HT) ht h)
   have ao:=ab (fun h=>NM ht h)
   clear ht pV;have ma:=xd (g:=gb) (o:=ob) (cap:=cap) (i:=k) (n:=n) underlying28 xR au
   cases hq:bp t
   ·have HE:Hid (cV l=7):=ab (by unfold cV;rw[aa ao hq];rfl)
    rw[hq] at ml;clear hq bP ao;go_wp2_with fail;refine(aa ml).mono ?_;rintro e w1 ⟨rfl,rfl⟩;go_wp2_with fail;go_ret;exact⟨by rw[aa HE];rfl,rfl⟩
   ·have HA:=ab (aa bP hq)
    rw[hq] at ml;clear hq bP ao;go_wp2_with fail;refine(aa ml).mono ?_;rintro e w1 ⟨rfl,rfl⟩;go_wp2_with fail;exact⟨⟨k+1,by omega,rfl,aa HA⟩,by simp[intOf];omega⟩
  ·obtain rfl:k=n:=by omega
   have HE:Hid (cV l=0):=ab (by
    have h:=aa HT;rw[aa HL,List.take_length] at h;unfold cV;rw[h];rfl)
   go_wp2_with fail;go_ret;exact⟨by rw[aa HE];rfl,rfl⟩
def dN:List Int→Int
 | []=>0
 | x::l=>if x=0 then dN l else x
theorem Kj {l:List Int} {k:Nat} {x:Int} (h:dN l=dN (l.drop k)) (hx:l[k]? =some x):(x=0→dN l=dN (l.drop (k+1)))∧(x≠0→dN l=x):=by
 have hk:k < l.length:=(rN.1 hx).1;have e:l.drop k=x::l.drop (k+1):=by
  rw[AB hk]
  congr 1
  rw[jH hk] at hx;exact k8 hx
 rw[h,e];exact⟨fun z=>af z,fun z=>ac z⟩
theorem xU (l:List Int) (g:Nat) (w:World) (hl:l.length≤8) (hc:∀i x,l[i]? =some x→w.cell? ⟨g,i,none⟩=some (.int .i64 x)):
  Calls prog 32 #[.slice (some ⟨g,0,none⟩) l.length l.length] w fun e w'=>e=.returned (.int .i64 (dN l))∧w'=w:=by
 have HC:=ab hc;clear hc;obtain⟨n,hn⟩:∃n,n=l.length:=⟨_,rfl⟩;rw[←hn] at hl ⊢;have HL:=ab hn;clear hn;go_enter func32,ntmps32;go_wp2_with fail;go_loop [7] (fun i=>∃k:Nat,k≤n∧i=.int .i64 (k:Int)∧Hid (dN l=dN (l.drop k))) (fun i=>n - (intOf i).toNat)
 case atStart=>exact⟨0,by omega,rfl,rfl⟩
 case round=>
  obtain⟨k,hk,rfl,HT⟩:=hrel;rcases cX k n with au | jc
  ·obtain⟨x,hx⟩:∃x,l[k]? =some x:=⟨l[k]'(by have:=aa HL;omega),jH _⟩
   have ct:=aa HC k x hx;have HS:=ab (Kj (aa HT) hx);clear hx;have ma:=xd (g:=g) (o:=0) (cap:=n) (i:=k) (n:=n) underlying113 JL au;rw[oI] at ma
   by_cases hq:x=0
   ·have HA:=ab ((aa HS).1 hq)
    have q:(x==0)=true:=bt hq;clear hq HS;go_wp2_with fail;exact⟨⟨k+1,by omega,rfl,aa HA⟩,by simp[intOf];omega⟩
   ·have HA:=ab ((aa HS).2 hq)
    have q:(x==0)=false:=bn hq;clear hq HS;go_wp2_with fail;go_ret;exact⟨by rw[aa HA];rfl,rfl⟩
  ·obtain rfl:k=n:=by omega
   have HE:Hid (dN l=0):=ab (by
    have h:=aa HT;rw[aa HL,List.drop_length] at h;exact h)
   go_wp2_with fail;go_ret;exact⟨by rw[aa HE];rfl,rfl⟩
end Go.Proofs.YtlmnjbipfacniaaGreatDoor
