/- What pats.Size does, for every pattern. -/
import Derived.Test.YtlmnjbipfacniaaGreatDoorPatNamedP
set_option maxRecDepth 100000
set_option maxHeartbeats 1000000
namespace Go.Proofs.YtlmnjbipfacniaaGreatDoor
open Go.Proofs.Tryz
open Go.RowKit
structure But (z:Nat) (w w':World):Prop where
 os:w'.os=w.os
 tape:w'.tape=w.tape
 output:w'.output=w.output
 size:w.heap.size≤w'.heap.size
 block:∀k,k < w.heap.size→k≠z→w'.heap[k]? =w.heap[k]?
theorem But.refl (z:Nat) (w:World):But z w w:=⟨rfl,rfl,rfl,ax _,fun _ _ _=>rfl⟩
theorem But.of_below {z:Nat} {w w':World} (h:Below w.heap.size w w'):But z w w':=⟨h.os,h.tape,h.output,h.size,fun k hk _=>h.block k hk⟩
theorem But.trans {z:Nat} {a b c:World} (h:But z a b) (k:But z b c):But z a c:=
 ⟨k.os.trans h.os,k.tape.trans h.tape,k.output.trans h.output,bJ h.size k.size,fun i hi hz=>(k.block i (i6 hi h.size) hz).trans (h.block i hi hz)⟩
theorem But.below {z:Nat} {a b c:World} (h:Below a.heap.size a b) (k:But z b c) (hz:a.heap.size≤z):Below a.heap.size a c:=
 ⟨k.os.trans h.os,k.tape.trans h.tape,k.output.trans h.output,bJ h.size k.size,fun i hi=>(k.block i (i6 hi h.size) (by omega)).trans (h.block i hi)⟩
theorem But.row {z:Nat} {w w':World} (h:But z w w') {n:Nat} {x:Obj} (hn:n≠z) (hx:w.heap[n]? =some x):w'.heap[n]? =some x:=
 (h.block n (bC.1 hx).1 hn).trans hx
theorem But.setCell {z:Nat} {a w:World} (h:But z a w) (o:Nat) (v:Value):But z a (w.setCell ⟨z,o,none⟩ v):=
 ⟨h.os,h.tape,h.output,by simpa using h.size,fun k hk hz=>(dm w ⟨z,o,none⟩ k v (by simpa using hz)).trans (h.block k hk hz)⟩
theorem But.alloc {z:Nat} {a w:World} (h:But z a w) (o:Obj):But z a (w.alloc o):=
 ⟨h.os,h.tape,h.output,by rw[eu];exact Nat.le_succ_of_le h.size,fun k hk hz=>(Below.heap_alloc _ _ _ (i6 hk h.size)).trans (h.block k hk hz)⟩
theorem xO {B:Nat} {w w':World} (h:Below B w w'):∀n,Below B w (w'.drewN n)
 | 0=>h
 | n+1=>(xO h n).drew
theorem dK:(prog.info? 27).map (·.size)=some 5:=by kernel_rfl
theorem kid_at {W:World} {T:PT} (hT:T.In W) {k:Nat} (hk:k < T.len) (w:World):
  (Instr.indexAt 25 (.slice T.xa T.len T.cap) (.int .i64 (k:Int))).run prog w=.ok (.pointer (some ⟨T.b,T.o+k * 5,none⟩)) w:=by
 rw[hT.addr (by omega)]
 have h0:(0:Int)≤(k:Int)∧(k:Int) < (T.len:Int):=by omega
 have hs:=dK
 cases hq:prog.info? 27 with
 | none=>simp[hq] at hs
 | some i=>
  have hz:i.size=5:=by simpa [hq] using hs
  simp[Instr.indexAt,asIntOf,run_underlying underlying25,h0,sizeOf,typeInfo,hq,hz,Addr.add_lit];intro h;omega
def Ak (a m:Nat):Obj:=.cells #[.int .i64 (a:Int),.int .i64 (m:Int)] 151 (0,0)
def NR (T:PT) (g a m d:Nat) (w:World) (e:Ending) (w':World):Prop:=∃ok a' m',e=.returned (.bool ok)∧w'.heap[g]? =some (Ak a' m')∧But g w w'∧
  (ok=true→a'=a+T.cnt∧m'=max m (d+T.dep - 1)∧a'≤4096∧m'≤200)∧(ok=false→4096 < a+T.cnt∨200 < d+T.dep - 1)
def B5 (T:PT):Prop:=∀(W w:World) (g a m d:Nat),T.In W→Below W.heap.size W w→W.heap.size≤g→w.heap[g]? =some (Ak a m)→a≤4096→m≤200→d≤201→∀x:Int,x=(d:Int)→
 Calls prog 108 #[.pointer (some ⟨g,0,none⟩),.agg #[.int .i64 T.k,.string T.t,.int .i64 T.n,.string T.nm,.slice T.xa T.len T.cap],.int .i64 x] w fun e w'=>NR T g a m d w e w'
theorem MG (w:World) (g a m:Nat) (x y:Value) (h:w.heap[g]? =some (Ak a m)):
  ((w.setCell ⟨g,0,none⟩ x).setCell ⟨g,1,none⟩ y).heap[g]? =some (.cells #[x,y] 151 (0,0)):=by
 have h1:=fK w g 0 _ _ x h;have h2:=fK _ g 1 _ _ y h1
 simpa using h2
theorem Mq (T:PT) (ih:∀i,i < T.len→B5 (T.kid i)):B5 T:=by
 intro W w g a m d hT bD hWg hg ha hm hd x hx;subst hx;have fm:=T.cnt_eq;have jL:=T.dep_eq;have hpos:=T.dep_pos;have jr:=hT.max;unfold maxLen at jr;have ks:g < w.heap.size:=(bC.1 hg).1;have hgn:¬g=w.heap.size:=by omega
 have hgm:¬w.heap.size=g:=by omega
 have c0:w.cell? ⟨g,0,none⟩=some (.int .i64 a):=by rw[eX w _ _ _ _ _ hg];rfl
 have c1:w.cell? ⟨g,1,none⟩=some (.int .i64 m):=by rw[eX w _ _ _ _ _ hg];rfl
 have f0:=cT w g 0 _ _ hg;have f1:=cT w g 1 _ _ hg;obtain⟨M,hM,hMx⟩:∃M,((m < d∧d=M)∨(¬m < d∧m=M))∧M=max m d:=⟨max m d,by omega,rfl⟩
 have H2:=ab (MG w g a m (.int .i64 ((a:Int)+1)) (.int .i64 (M:Int)) hg);have HD:=ab (And.intro fm (And.intro jL (And.intro hMx (And.intro hT (And.intro bD ih)))));clear hg fm jL hMx hT bD ih hpos
 by_cases h1:4096 < a+1
 ·have h1':4096 < (a:Int)+1:=by omega
  rcases hM with ⟨hM,rfl⟩ | ⟨hM,rfl⟩
  all_goals
   go_enter func108,ntmps108;go_wp2_with fail;go_ret;refine⟨false,a+1,_,rfl,bL (by simpa using ks) (aa H2),(((But.refl g w).setCell _ _).setCell _ _).alloc _,by simp,fun _=>.inl ?_⟩
   have:=(aa HD).1;omega
 ·by_cases h2:200 < d
  ·have h1':¬4096 < (a:Int)+1:=by omega
   have h2':200 < (d:Int):=by omega
   have hMd:m < d:=by omega
   have hMM:d=M:=by omega
   clear hM;subst hMM;go_enter func108,ntmps108;go_wp2_with fail;go_ret;refine⟨false,a+1,_,rfl,bL (by simpa using ks) (aa H2),(((But.refl g w).setCell _ _).setCell _ _).alloc _,by simp,fun _=>.inr ?_⟩
   have:=(aa HD).2.1;omega
  ·have h1':¬4096 < (a:Int)+1:=by omega
   have h2':¬200 < (d:Int):=by omega
   obtain⟨K,hK⟩:∃K,K=(Obj.cells #[.int .i64 T.k,.string T.t,.int .i64 T.n,.string T.nm,.slice T.xa T.len T.cap] 27):=⟨_,rfl⟩;have lN:=bL (o:=K) (by simpa using ks) (aa H2)
   have aZ:=(((But.refl g w).setCell 0 (.int .i64 ((a:Int)+1))).setCell 1 (.int .i64 (M:Int))).alloc K;obtain⟨W0,lo⟩:∃W0,W0=(((w.setCell ⟨g,0,none⟩ (.int .i64 ((a:Int)+1))).setCell ⟨g,1,none⟩ (.int .i64 (M:Int))).alloc K):=⟨_,rfl⟩;rw[←lo] at lN aZ;have HW:=ab lo;have HK:=ab hK;have aD:=ab aZ;have ao:=ab lN;have gh:=aZ.size;clear lo hK aZ lN;rcases hM with ⟨hM,hMM⟩ | ⟨hM,hMM⟩
   all_goals
    subst hMM;go_enter func108,ntmps108;go_wp2_with fail;rw[←aa HK,←aa HW];clear c0 c1 f0 f1 hgn hgm H2 hM h1';go_loopw [37] (fun i wr=>∃k A B:Nat,k≤T.len∧i=.int .i64 (k:Int)∧wr.heap[g]? =some (Ak A B)∧But g w wr∧A=a+1+eU (fun i=>(T.kid i).cnt) k∧B=max (max m d) (d+jk (fun i=>(T.kid i).dep) k)∧A≤4096∧B≤200) (fun i _=>T.len - (intOf i).toNat)
    case atStart=>
     refine⟨0,a+1,_,by omega,rfl,aa ao,aa aD,rfl, ?_,by omega,by omega⟩
     have:=(aa HD).2.2.1;simp only[jk];omega
    case round=>
     obtain⟨k,A,B,hk,rfl,pX,fO,hA,hB,hA1,mf⟩:=hrel;rcases cX k T.len with hkt | hkt
     ·obtain⟨js,hdn, -,hT,bD,ih⟩:=aa HD
      have cz:=But.below bD fO hWg;have lm:=kid_at hT hkt;obtain⟨k0,k1,k2,k3,k4⟩:=hT.cells hkt;have k0:=av cz k0;have k1:=av cz k1;have k2:=av cz k2;have k3:=av cz k3;have k4:=av cz k4;unfold PT.kv at k4;have qE:g < wr.heap.size:=(bC.1 pX).1;have HI:=ab (ih k hkt W);have HT:=ab (hT.kids hkt);have HBW:=ab cz;have HGR:=ab pX;have jw:=ab fO;have nF:=ab (And.intro hA hB);clear js hdn hT bD ih cz pX fO hA hB;go_wp2_with fail;refine(aa HI _ g A B (d+1) (aa HT) ((aa HBW).alloc (aa HBW).size _) hWg (bL qE (aa HGR)) hA1 mf (by omega) _ (by omega)).mono ?_
      rintro e w2 ⟨ok,a',m',rfl,fk,hb2,ht,hf⟩;have qf:=ab fk;have aF:=ab (((aa jw).alloc _).trans hb2);have vE:=ab (And.intro ht hf);clear fk hb2 ht hf
      cases ok
      ·go_wp2_with fail
       go_ret;refine⟨false,a',m',rfl,aa qf,aa aF,by simp,fun _=> ?_⟩
       obtain⟨js,hdn,_⟩:=aa HD;have e1:=wM (fun i=>(T.kid i).cnt) (show k+1≤T.len from hkt)
       have e2:=Em (fun i=>(T.kid i).dep) (show k+1≤T.len from hkt)
       simp only[eU,jk] at e1 e2;have h:=(aa vE).2 (by simp)
       have hA:=(aa nF).1;have hB:=(aa nF).2;omega
      ·go_wp2_with fail
       go_roundw
       case rel=>
        obtain⟨h1,h2,h3,h4⟩:=(aa vE).1 (by simp)
        refine⟨k+1,a',m',by omega,by go_num,aa qf,aa aF, ?_, ?_,h3,h4⟩
        ·have:=(aa nF).1
         simp only[eU];omega
        ·have:=(aa nF).2
         simp only[jk];omega
       case measure=>simp[intOf];omega
     ·have hk':k=T.len:=by omega
      have HGR:=ab pX;have jw:=ab fO;have nF:=ab (And.intro hA hB);clear pX fO hA hB;go_wp2_with fail;go_ret;refine⟨true,A,B,rfl,aa HGR,aa jw,fun _=> ?_,by simp⟩
      obtain⟨js,hdn,_⟩:=aa HD;have hA:=(aa nF).1;have hB:=(aa nF).2;rw[hk'] at hA hB;exact⟨by omega,by omega,hA1,mf⟩
theorem NP:∀T:PT,B5 T:=PT.ind Mq
def pv (T:PT):Value:=.agg #[.int .i64 T.k,.string T.t,.int .i64 T.n,.string T.nm,.slice T.xa T.len T.cap]
def uu (T:PT):Value:=if T.fits then .tuple #[.int .i64 (T.cnt:Int),.int .i64 (T.dep:Int),.int .i64 0] else .tuple #[.int .i64 0,.int .i64 0,.int .i64 4]
theorem D0 (T:PT) (w:World) (hT:T.In w):
  Calls prog 64 #[pv T] w fun e w'=>e=.returned (uu T)∧Below w.heap.size w w':=by
 unfold pv;have HA:=ab (NP T w);have HT:=ab hT;clear hT;go_enter func64,ntmps64;go_wp2_with fail;have bD:=((aW w.heap.size w).alloc (ax _) (.cells #[.int .i64 T.k,.string T.t,.int .i64 T.n,.string T.nm,.slice T.xa T.len T.cap] 27)).alloc (by simp) (.cells #[.int .i64 0,.int .i64 0] 151)
 refine(aa HA _ (w.heap.size+1) 0 0 1 (aa HT) bD (by omega) (aw (by simp)) (by omega) (by omega) (by omega) _ rfl).mono ?_
 rintro e w1 ⟨ok,a',m',rfl,hg,hb,ht,hf⟩;have HB:=ab (But.below bD hb (by omega))
 have vE:=ab (And.intro ht hf);have c0:w1.cell? ⟨w.heap.size+1,0,none⟩=some (.int .i64 a'):=by rw[eX w1 _ _ _ _ _ hg];rfl
 have c1:w1.cell? ⟨w.heap.size+1,1,none⟩=some (.int .i64 m'):=by rw[eX w1 _ _ _ _ _ hg];rfl
 clear bD hb ht hf hg HA
 cases ok
 ·have HS:Hid (uu T=.tuple #[.int .i64 0,.int .i64 0,.int .i64 4]):=ab (by
   unfold uu;rw[ac];have h:=(aa vE).2 (by simp)
   unfold PT.fits;simp;omega)
  go_wp2_with fail;go_ret3;exact⟨by rw[aa HS];rfl,aa HB⟩
 ·have HS:Hid (uu T=.tuple #[.int .i64 a',.int .i64 m',.int .i64 0]):=ab (by
   obtain⟨h1,h2,h3,h4⟩:=(aa vE).1 (by simp)
   have:=T.dep_pos;unfold uu;rw[af]
   ·rw[h1,h2,show max 0 (1+T.dep - 1)=T.dep by omega,oI]
   ·unfold PT.fits
    simp;omega)
  go_wp2_with fail;go_quiet (fail);go_wp2_with fail;go_ret3;exact⟨by rw[aa HS];rfl,xO (aa HB) _⟩
end Go.Proofs.YtlmnjbipfacniaaGreatDoor
