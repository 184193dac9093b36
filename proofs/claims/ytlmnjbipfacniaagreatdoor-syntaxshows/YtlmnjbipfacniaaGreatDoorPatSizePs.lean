/- What pats.Size does, for every pattern. -/
import Derived.Test.YtlmnjbipfacniaaGreatDoorPatNamedPs
set_option maxRecDepth 100000
set_option maxHeartbeats 1000000
namespace Go.Proofs.YtlmnjbipfacniaaGreatDoor
open Go.Proofs.Tryz
open Go.RowKit
structure But (z:Nat) (w w':World):Prop where
 os:w'.os=w.os
 tape:w'.tape=w.tape
 output:w'.output=w.output
 size:w.heap.size≤w'.heap.size
 block:∀k,k < w.heap.size→k≠z→w'.heap[k]? =w.heap[k]?
theorem But.refl (z:Nat) (w:World):But z w w:=⟨rfl,rfl,rfl,aw _,fun _ _ _=>rfl⟩
theorem But.of_below {z:Nat} {w w':World} (h:Below w.heap.size w w'):But z w w':=⟨h.os,h.tape,h.output,h.size,fun k hk _=>h.block k hk⟩
theorem But.trans {z:Nat} {a b c:World} (h:But z a b) (k:But z b c):But z a c:=
 ⟨k.os.trans h.os,k.tape.trans h.tape,k.output.trans h.output,bv h.size k.size,fun i hi hz=>(k.block i (gL hi h.size) hz).trans (h.block i hi hz)⟩
theorem But.below {z:Nat} {a b c:World} (h:Below a.heap.size a b) (k:But z b c) (hz:a.heap.size≤z):Below a.heap.size a c:=
 ⟨k.os.trans h.os,k.tape.trans h.tape,k.output.trans h.output,bv h.size k.size,fun i hi=>(k.block i (gL hi h.size) (by omega)).trans (h.block i hi)⟩
theorem But.row {z:Nat} {w w':World} (h:But z w w') {n:Nat} {x:Obj} (hn:n≠z) (hx:w.heap[n]? =some x):w'.heap[n]? =some x:=
 (h.block n (bC.1 hx).1 hn).trans hx
theorem But.setCell {z:Nat} {a w:World} (h:But z a w) (o:Nat) (v:Value):But z a (w.setCell ⟨z,o,none⟩ v):=
 ⟨h.os,h.tape,h.output,by simpa using h.size,fun k hk hz=>(dh w ⟨z,o,none⟩ k v (by simpa using hz)).trans (h.block k hk hz)⟩
theorem But.alloc {z:Nat} {a w:World} (h:But z a w) (o:Obj):But z a (w.alloc o):=
 ⟨h.os,h.tape,h.output,by rw[dS];exact Nat.le_succ_of_le h.size,fun k hk hz=>(Below.heap_alloc _ _ _ (gL hk h.size)).trans (h.block k hk hz)⟩
theorem xL {B:Nat} {w w':World} (h:Below B w w'):∀n,Below B w (w'.drewN n)
 | 0=>h
 | n+1=>(xL h n).drew
theorem dE:(prog.info? 27).map (·.size)=some 5:=by kernel_rfl
theorem kid_at {W:World} {T:PT} (hT:T.In W) {k:Nat} (hk:k < T.len) (w:World):
  (Instr.indexAt 25 (.slice T.xa T.len T.cap) (.int .i64 (k:Int))).run prog w=.ok (.pointer (some ⟨T.b,T.o+k * 5,none⟩)) w:=by
 rw[hT.addr (by omega)]
 have h0:(0:Int)≤(k:Int)∧(k:Int) < (T.len:Int):=by omega
 have hs:=dE
 cases hq:prog.info? 27 with
 | none=>simp[hq] at hs
 | some i=>
  have hz:i.size=5:=by simpa [hq] using hs
  simp[Instr.indexAt,asIntOf,run_underlying underlying25,h0,sizeOf,typeInfo,hq,hz,Addr.add_lit];intro h;omega
def Ac (a m:Nat):Obj:=.cells #[.int .i64 (a:Int),.int .i64 (m:Int)] 151 (0,0)
def Nj (T:PT) (g a m d:Nat) (w:World) (e:Ending) (w':World):Prop:=∃ok a' m',e=.returned (.bool ok)∧w'.heap[g]? =some (Ac a' m')∧But g w w'∧
  (ok=true→a'=a+T.cnt∧m'=max m (d+T.dep - 1)∧a'≤4096∧m'≤200)∧(ok=false→4096 < a+T.cnt∨200 < d+T.dep - 1)
def BO (T:PT):Prop:=∀(W w:World) (g a m d:Nat),T.In W→Below W.heap.size W w→W.heap.size≤g→w.heap[g]? =some (Ac a m)→a≤4096→m≤200→d≤201→∀x:Int,x=(d:Int)→
 Calls prog 108 #[.pointer (some ⟨g,0,none⟩),.agg #[.int .i64 T.k,.string T.t,.int .i64 T.n,.string T.nm,.slice T.xa T.len T.cap],.int .i64 x] w fun e w'=>Nj T g a m d w e w'
theorem Md (w:World) (g a m:Nat) (x y:Value) (h:w.heap[g]? =some (Ac a m)):
  ((w.setCell ⟨g,0,none⟩ x).setCell ⟨g,1,none⟩ y).heap[g]? =some (.cells #[x,y] 151 (0,0)):=by
 have h1:=fB w g 0 _ _ x h;have h2:=fB _ g 1 _ _ y h1
 simpa using h2
theorem LX (T:PT) (ih:∀i,i < T.len→BO (T.kid i)):BO T:=by
 intro W w g a m d hT bz hWg hg ha hm hd x hx;subst hx;have eT:=T.cnt_eq;have jB:=T.dep_eq;have hpos:=T.dep_pos;have je:=hT.max;unfold maxLen at je;have j8:g < w.heap.size:=(bC.1 hg).1;have hgn:¬g=w.heap.size:=by omega
 have hgm:¬w.heap.size=g:=by omega
 have c0:w.cell? ⟨g,0,none⟩=some (.int .i64 a):=by rw[eB w _ _ _ _ _ hg];rfl
 have c1:w.cell? ⟨g,1,none⟩=some (.int .i64 m):=by rw[eB w _ _ _ _ _ hg];rfl
 have f0:=cN w g 0 _ _ hg;have f1:=cN w g 1 _ _ hg;obtain⟨M,hM,hMx⟩:∃M,((m < d∧d=M)∨(¬m < d∧m=M))∧M=max m d:=⟨max m d,by omega,rfl⟩
 have H2:=ab (Md w g a m (.int .i64 ((a:Int)+1)) (.int .i64 (M:Int)) hg);have HD:=ab (And.intro eT (And.intro jB (And.intro hMx (And.intro hT (And.intro bz ih)))));clear hg eT jB hMx hT bz ih hpos
 by_cases h1:4096 < a+1
 ·have h1':4096 < (a:Int)+1:=by omega
  rcases hM with ⟨hM,rfl⟩ | ⟨hM,rfl⟩
  all_goals
   go_enter func108,ntmps108;go_wp2_with fail;go_ret;refine⟨false,a+1,_,rfl,ci (by simpa using j8) (aa H2),(((But.refl g w).setCell _ _).setCell _ _).alloc _,by simp,fun _=>.inl ?_⟩
   have:=(aa HD).1;omega
 ·by_cases h2:200 < d
  ·have h1':¬4096 < (a:Int)+1:=by omega
   have h2':200 < (d:Int):=by omega
   have hMd:m < d:=by omega
   have hMM:d=M:=by omega
   clear hM;subst hMM;go_enter func108,ntmps108;go_wp2_with fail;go_ret;refine⟨false,a+1,_,rfl,ci (by simpa using j8) (aa H2),(((But.refl g w).setCell _ _).setCell _ _).alloc _,by simp,fun _=>.inr ?_⟩
   have:=(aa HD).2.1;omega
  ·have h1':¬4096 < (a:Int)+1:=by omega
   have h2':¬200 < (d:Int):=by omega
   obtain⟨K,hK⟩:∃K,K=(Obj.cells #[.int .i64 T.k,.string T.t,.int .i64 T.n,.string T.nm,.slice T.xa T.len T.cap] 27):=⟨_,rfl⟩;have lP:=ci (o:=K) (by simpa using j8) (aa H2)
   have bd:=(((But.refl g w).setCell 0 (.int .i64 ((a:Int)+1))).setCell 1 (.int .i64 (M:Int))).alloc K;obtain⟨W0,lp⟩:∃W0,W0=(((w.setCell ⟨g,0,none⟩ (.int .i64 ((a:Int)+1))).setCell ⟨g,1,none⟩ (.int .i64 (M:Int))).alloc K):=⟨_,rfl⟩;rw[←lp] at lP bd;have HW:=ab lp;have HK:=ab hK;have aF:=ab bd;have ap:=ab lP;have fV:=bd.size;clear lp hK bd lP;rcases hM with ⟨hM,hMM⟩ | ⟨hM,hMM⟩
   all_goals
    subst hMM;go_enter func108,ntmps108;go_wp2_with fail;rw[←aa HK,←aa HW];clear c0 c1 f0 f1 hgn hgm H2 hM h1';go_loopw [37] (fun i wr=>∃k A B:Nat,k≤T.len∧i=.int .i64 (k:Int)∧wr.heap[g]? =some (Ac A B)∧But g w wr∧A=a+1+fy (fun i=>(T.kid i).cnt) k∧B=max (max m d) (d+iZ (fun i=>(T.kid i).dep) k)∧A≤4096∧B≤200) (fun i _=>T.len - (intOf i).toNat)
    case atStart=>
     refine⟨0,a+1,_,by omega,rfl,aa ap,aa aF,rfl, ?_,by omega,by omega⟩
     have:=(aa HD).2.2.1;simp only[iZ];omega
    case round=>
     obtain⟨k,A,B,hk,rfl,qq,fD,hA,hB,hA1,mg⟩:=hrel;rcases cG k T.len with hkt | hkt
     ·obtain⟨fO,hdn, -,hT,bz,ih⟩:=aa HD
      have cw:=But.below bz fD hWg;have lo:=kid_at hT hkt;obtain⟨k0,k1,k2,k3,k4⟩:=hT.cells hkt;have k0:=av cw k0;have k1:=av cw k1;have k2:=av cw k2;have k3:=av cw k3;have k4:=av cw k4;unfold PT.kv at k4;have qU:g < wr.heap.size:=(bC.1 qq).1;have HI:=ab (ih k hkt W);have HT:=ab (hT.kids hkt);have lu:=ab cw;have HGR:=ab qq;have jj:=ab fD;have nP:=ab (And.intro hA hB);clear fO hdn hT bz ih cw qq fD hA hB;go_wp2_with fail;refine(aa HI _ g A B (d+1) (aa HT) ((aa lu).alloc (aa lu).size _) hWg (ci qU (aa HGR)) hA1 mg (by omega) _ (by omega)).mono ?_
      rintro e w2 ⟨ok,a',m',rfl,eS,hb2,ht,hf⟩;have qA:=ab eS;have aE:=ab (((aa jj).alloc _).trans hb2);have vB:=ab (And.intro ht hf);clear eS hb2 ht hf
      cases ok
      ·go_wp2_with fail
       go_ret;refine⟨false,a',m',rfl,aa qA,aa aE,by simp,fun _=> ?_⟩
       obtain⟨fO,hdn,_⟩:=aa HD;have e1:=xQ (fun i=>(T.kid i).cnt) (show k+1≤T.len from hkt)
       have e2:=D3 (fun i=>(T.kid i).dep) (show k+1≤T.len from hkt)
       simp only[fy,iZ] at e1 e2;have h:=(aa vB).2 (by simp)
       have hA:=(aa nP).1;have hB:=(aa nP).2;omega
      ·go_wp2_with fail
       go_roundw
       case rel=>
        obtain⟨h1,h2,h3,h4⟩:=(aa vB).1 (by simp)
        refine⟨k+1,a',m',by omega,by go_num,aa qA,aa aE, ?_, ?_,h3,h4⟩
        ·have:=(aa nP).1
         simp only[fy];omega
        ·have:=(aa nP).2
         simp only[iZ];omega
       case measure=>simp[intOf];omega
     ·have hk':k=T.len:=by omega
      have HGR:=ab qq;have jj:=ab fD;have nP:=ab (And.intro hA hB);clear qq fD hA hB;go_wp2_with fail;go_ret;refine⟨true,A,B,rfl,aa HGR,aa jj,fun _=> ?_,by simp⟩
      obtain⟨fO,hdn,_⟩:=aa HD;have hA:=(aa nP).1;have hB:=(aa nP).2;rw[hk'] at hA hB;exact⟨by omega,by omega,hA1,mg⟩
theorem Nh:∀T:PT,BO T:=PT.ind LX
def pv (T:PT):Value:=.agg #[.int .i64 T.k,.string T.t,.int .i64 T.n,.string T.nm,.slice T.xa T.len T.cap]
def uj (T:PT):Value:=if T.fits then .tuple #[.int .i64 (T.cnt:Int),.int .i64 (T.dep:Int),.int .i64 0] else .tuple #[.int .i64 0,.int .i64 0,.int .i64 4]
theorem DI (T:PT) (w:World) (hT:T.In w):
  Calls prog 64 #[pv T] w fun e w'=>e=.returned (uj T)∧Below w.heap.size w w':=by
 unfold pv;have HA:=ab (Nh T w);have HT:=ab hT;clear hT;go_enter func64,ntmps64;go_wp2_with fail;have bz:=((aV w.heap.size w).alloc (aw _) (.cells #[.int .i64 T.k,.string T.t,.int .i64 T.n,.string T.nm,.slice T.xa T.len T.cap] 27)).alloc (by simp) (.cells #[.int .i64 0,.int .i64 0] 151)
 refine(aa HA _ (w.heap.size+1) 0 0 1 (aa HT) bz (by omega) (ax (by simp)) (by omega) (by omega) (by omega) _ rfl).mono ?_
 rintro e w1 ⟨ok,a',m',rfl,hg,hb,ht,hf⟩;have HB:=ab (But.below bz hb (by omega))
 have vB:=ab (And.intro ht hf);have c0:w1.cell? ⟨w.heap.size+1,0,none⟩=some (.int .i64 a'):=by rw[eB w1 _ _ _ _ _ hg];rfl
 have c1:w1.cell? ⟨w.heap.size+1,1,none⟩=some (.int .i64 m'):=by rw[eB w1 _ _ _ _ _ hg];rfl
 clear bz hb ht hf hg HA
 cases ok
 ·have HS:Hid (uj T=.tuple #[.int .i64 0,.int .i64 0,.int .i64 4]):=ab (by
   unfold uj;rw[ac];have h:=(aa vB).2 (by simp)
   unfold PT.fits;simp;omega)
  go_wp2_with fail;go_ret3;exact⟨by rw[aa HS];rfl,aa HB⟩
 ·have HS:Hid (uj T=.tuple #[.int .i64 a',.int .i64 m',.int .i64 0]):=ab (by
   obtain⟨h1,h2,h3,h4⟩:=(aa vB).1 (by simp)
   have:=T.dep_pos;unfold uj;rw[af]
   ·rw[h1,h2,show max 0 (1+T.dep - 1)=T.dep by omega,ni]
   ·unfold PT.fits
    simp;omega)
  go_wp2_with fail;go_quiet (fail);go_wp2_with fail;go_ret3;exact⟨by rw[aa HS];rfl,xL (aa HB) _⟩
end Go.Proofs.YtlmnjbipfacniaaGreatDoor
