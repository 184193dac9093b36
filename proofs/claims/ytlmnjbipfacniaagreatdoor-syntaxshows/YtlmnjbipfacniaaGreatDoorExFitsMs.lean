/- What strings.Clone answers, laid from the library. What stri -/
import Derived.Shelf.LaysM
import Derived.Below
import Derived.Shelf.Strconv.Clone
import Derived.Test.YtlmnjbipfacniaaGreatDoorProg
import Derived.Shelf.Small.Strs
import Derived.Shelf.Strings.Shaped
import Derived.Test.YtlmnjbipfacniaaGreatDoorLexRepLibMs
import Derived.Test.YtlmnjbipfacniaaGreatDoorPatSizePs
set_option maxRecDepth 100000
set_option maxHeartbeats 1000000
namespace Go.Proofs
open Go.Shelf Go.RowKit Go.Lib
def Tryz.laysM316_ren:Go.Shelf.Ren:=⟨fun | 316=>133 | n=>n,fun | 9=>9 | 3=>3 | 4=>4 | 37=>48 | 0=>0 | 127=>167 | 5=>5 | n=>n,fun | n=>n⟩
theorem Tryz.laysM316:Go.Proofs.LaysM.n316 Tryz.prog Tryz.laysM316_ren:={
 mixed:=by kernel_rfl
 f316:=Tryz.func133.trans (congrArg some (by kernel_rfl))
 t0:=Tryz.underlying0
 a0:=Tryz.isAgg0
 z0:=Tryz.sizeOf0
 v0:=Tryz.zeroValue0
 t3:=Tryz.underlying3
 a3:=Tryz.isAgg3
 z3:=Tryz.sizeOf3
 v3:=Tryz.zeroValue3
 t4:=Tryz.underlying4
 a4:=Tryz.isAgg4
 z4:=Tryz.sizeOf4
 v4:=Tryz.zeroValue4
 t9:=Tryz.underlying9
 a9:=Tryz.isAgg9
 z9:=Tryz.sizeOf9
 v9:=Tryz.zeroValue9
 t37:=Tryz.underlying48
 a37:=Tryz.isAgg48
 z37:=Tryz.sizeOf48
 v37:=Tryz.zeroValue48
 t127:=Tryz.underlying167
 a127:=Tryz.isAgg167
 z127:=Tryz.sizeOf167
 v127:=Tryz.zeroValue167
 t5:=Tryz.underlying5
 a5:=Tryz.isAgg5
 z5:=Tryz.sizeOf5
 v5:=Tryz.zeroValue5
 i0:=by kernel_rfl
 i3:=by kernel_rfl
 i4:=by kernel_rfl
 i5:=by kernel_rfl
 i9:=by kernel_rfl
 i37:=by kernel_rfl
 i127:=by kernel_rfl}
theorem Tryz.stringslite_Clone (s:ByteArray) (w:World) (hlim:s.size≤281474976710656):
  Calls Tryz.prog 133 #[.string s] w fun e w'=>e=.returned (.string s)∧Below w.heap.size w w':=Any.stringslite_Clone Tryz.laysM316 s w hlim
end Go.Proofs
namespace Go.Proofs
open Go.Shelf Go.RowKit Go.Lib
def Tryz.lays137_ren:Go.Shelf.Ren:=⟨fun | 137=>91 | 217=>131 | 266=>147 | n=>n,fun | 9=>9 | 5=>5 | 3=>3 | n=>n,fun | n=>n⟩
theorem Tryz.lays137:Go.Proofs.Lays.n137 Tryz.prog Tryz.lays137_ren:={
 mixed:=by kernel_rfl
 f137:=Tryz.func91.trans (congrArg some (by kernel_rfl))
 f217:=Tryz.func131.trans (congrArg some (by kernel_rfl))
 f266:=Tryz.func147.trans (congrArg some (by kernel_rfl))
 t3:=Tryz.underlying3
 a3:=Tryz.isAgg3
 z3:=Tryz.sizeOf3
 v3:=Tryz.zeroValue3
 t5:=Tryz.underlying5
 a5:=Tryz.isAgg5
 z5:=Tryz.sizeOf5
 v5:=Tryz.zeroValue5
 t9:=Tryz.underlying9
 a9:=Tryz.isAgg9
 z9:=Tryz.sizeOf9
 v9:=Tryz.zeroValue9}
theorem Tryz.strings_IndexByte (s:ByteArray) (c:Int) (w:World):
  Calls Tryz.prog 91 #[.string s,.int .u8 c] w fun e w'=>e=.returned (.int .i64 (Lib.indexByte s.data.toList c.toNat.toUInt8))∧w'=w:=Any.strings_IndexByte Tryz.lays137 s c w
end Go.Proofs
namespace Go.Proofs
open Go.Shelf Go.RowKit Go.Lib
def Tryz.lays144_ren:Go.Shelf.Ren:=⟨fun | 144=>79 | 143=>125 | 219=>143 | 217=>131 | 225=>157 | 224=>158 | 267=>159 | 266=>147 | 314=>170 | n=>n,fun | 9=>9 | 4=>4 | 3=>3 | 5=>5 | 46=>190 | 146=>200 | 51=>199 | n=>n,fun | 1=>2 | n=>n⟩
theorem Tryz.lays144:Go.Proofs.Lays.n144 Tryz.prog Tryz.lays144_ren:={
 mixed:=by kernel_rfl
 f143:=Tryz.func125.trans (congrArg some (by kernel_rfl))
 f144:=Tryz.func79.trans (congrArg some (by kernel_rfl))
 f217:=Tryz.func131.trans (congrArg some (by kernel_rfl))
 f219:=Tryz.func143.trans (congrArg some (by kernel_rfl))
 f224:=Tryz.func158.trans (congrArg some (by kernel_rfl))
 f225:=Tryz.func157.trans (congrArg some (by kernel_rfl))
 f266:=Tryz.func147.trans (congrArg some (by kernel_rfl))
 f267:=Tryz.func159.trans (congrArg some (by kernel_rfl))
 f314:=Tryz.func170.trans (congrArg some (by kernel_rfl))
 t3:=Tryz.underlying3
 a3:=Tryz.isAgg3
 z3:=Tryz.sizeOf3
 v3:=Tryz.zeroValue3
 t4:=Tryz.underlying4
 a4:=Tryz.isAgg4
 z4:=Tryz.sizeOf4
 v4:=Tryz.zeroValue4
 t5:=Tryz.underlying5
 a5:=Tryz.isAgg5
 z5:=Tryz.sizeOf5
 v5:=Tryz.zeroValue5
 t9:=Tryz.underlying9
 a9:=Tryz.isAgg9
 z9:=Tryz.sizeOf9
 v9:=Tryz.zeroValue9
 t46:=Tryz.underlying190
 a46:=Tryz.isAgg190
 z46:=Tryz.sizeOf190
 v46:=Tryz.zeroValue190
 t51:=Tryz.underlying199
 a51:=Tryz.isAgg199
 z51:=Tryz.sizeOf199
 v51:=Tryz.zeroValue199
 t146:=Tryz.underlying200
 a146:=Tryz.isAgg200
 z146:=Tryz.sizeOf200
 v146:=Tryz.zeroValue200
 g1:=by kernel_rfl}
theorem Tryz.strings_Contains (s sub:ByteArray) (m:Int) (w:World) (hs:s.size < 4294967281) (hm:w.cell? ⟨2,0,none⟩=some (.int .i64 m)):
  Calls Tryz.prog 79 #[.string s,.string sub] w fun e w'=>e=.returned (.bool (Lib.contains s.data.toList sub.data.toList))∧w'=w:=Any.strings_Contains Tryz.lays144 s sub m w hs hm
end Go.Proofs
namespace Go.Proofs.YtlmnjbipfacniaaGreatDoor
open Go.Proofs.Tryz
open Go.RowKit
theorem Jl:(prog.info? 24).map (·.size)=some 5:=by kernel_rfl
theorem ms {W:World} {T:PT} (hT:T.In W) {k:Nat} (hk:k < T.len) (w:World):
  (Instr.indexAt 22 (.slice T.xa T.len T.cap) (.int .i64 (k:Int))).run prog w=.ok (.pointer (some ⟨T.b,T.o+k * 5,none⟩)) w:=by
 rw[hT.addr (by omega)]
 have h0:(0:Int)≤(k:Int)∧(k:Int) < (T.len:Int):=by omega
 have hs:=Jl
 cases hq:prog.info? 24 with
 | none=>simp[hq] at hs
 | some i=>
  have hz:i.size=5:=by simpa [hq] using hs
  simp[Instr.indexAt,asIntOf,run_underlying underlying22,h0,sizeOf,typeInfo,hq,hz,Addr.add_lit];intro h;omega
def Ah (a:Nat):Obj:=.cells #[.int .i64 (a:Int)] 3 (0,0)
def Ni (T:PT) (g a d:Nat) (w:World) (e:Ending) (w':World):Prop:=∃ok a',e=.returned (.bool ok)∧w'.heap[g]? =some (Ah a')∧But g w w'∧
  (ok=true→a'=a+T.cnt∧d+T.dep - 1≤200∧a'≤4096)∧(ok=false→4096 < a+T.cnt∨200 < d+T.dep - 1)
def BM (T:PT):Prop:=∀(W w:World) (g a d:Nat),T.In W→Below W.heap.size W w→W.heap.size≤g→w.heap[g]? =some (Ah a)→a≤4096→d≤201→∀x:Int,x=(d:Int)→
 Calls prog 57 #[.agg #[.int .i64 T.k,.string T.t,.int .i64 T.n,.string T.nm,.slice T.xa T.len T.cap],.int .i64 x,.pointer (some ⟨g,0,none⟩)] w fun e w'=>Ni T g a d w e w'
theorem Me (w:World) (g a:Nat) (x:Value) (h:w.heap[g]? =some (Ah a)):
  (w.setCell ⟨g,0,none⟩ x).heap[g]? =some (.cells #[x] 3 (0,0)):=by
 have h1:=fB w g 0 _ _ x h
 simpa using h1
theorem Lw (T:PT) (ih:∀i,i < T.len→BM (T.kid i)):BM T:=by
 intro W w g a d hT bz hWg hg ha hd x hx;subst hx;have eT:=T.cnt_eq;have jB:=T.dep_eq;have je:=hT.max;unfold maxLen at je;have j8:g < w.heap.size:=(bC.1 hg).1;have hgn:¬g=w.heap.size:=by omega
 have hgm:¬w.heap.size=g:=by omega
 have c0:w.cell? ⟨g,0,none⟩=some (.int .i64 a):=by rw[eB w _ _ _ _ _ hg];rfl
 have f0:=cN w g 0 _ _ hg;have H2:=ab (Me w g a (.int .i64 ((a:Int)+1)) hg);have HD:=ab (And.intro eT (And.intro jB (And.intro hT (And.intro bz ih))));clear hg eT jB hT bz ih
 by_cases h1:4096 < a+1
 ·have h1':4096 < (a:Int)+1:=by omega
  go_enter func57,ntmps57;go_wp2_with fail;go_ret;refine⟨false,a+1,rfl,ci (by simpa using j8) (aa H2),((But.refl g w).setCell _ _).alloc _,by simp,fun _=>.inl ?_⟩
  have:=(aa HD).1;omega
 ·by_cases h2:200 < d
  ·have h1':¬4096 < (a:Int)+1:=by omega
   have h2':200 < (d:Int):=by omega
   go_enter func57,ntmps57;go_wp2_with fail;go_ret;refine⟨false,a+1,rfl,ci (by simpa using j8) (aa H2),((But.refl g w).setCell _ _).alloc _,by simp,fun _=>.inr ?_⟩
   have:=(aa HD).2.1;omega
  ·have h1':¬4096 < (a:Int)+1:=by omega
   have h2':¬200 < (d:Int):=by omega
   obtain⟨K,hK⟩:∃K,K=(Obj.cells #[.int .i64 T.k,.string T.t,.int .i64 T.n,.string T.nm,.slice T.xa T.len T.cap] 24):=⟨_,rfl⟩;have lP:=ci (o:=K) (by simpa using j8) (aa H2)
   have bd:=((But.refl g w).setCell 0 (.int .i64 ((a:Int)+1))).alloc K;obtain⟨W0,lp⟩:∃W0,W0=((w.setCell ⟨g,0,none⟩ (.int .i64 ((a:Int)+1))).alloc K):=⟨_,rfl⟩;rw[←lp] at lP bd;have HW:=ab lp;have HK:=ab hK;have aF:=ab bd;have ap:=ab lP;have fV:=bd.size;clear lp hK bd lP;go_enter func57,ntmps57;go_wp2_with fail;rw[←aa HK,←aa HW];clear c0 f0 hgn hgm H2 h1';go_loopw [25] (fun i wr=>∃k A:Nat,k≤T.len∧i=.int .i64 (k:Int)∧wr.heap[g]? =some (Ah A)∧But g w wr∧A=a+1+fy (fun i=>(T.kid i).cnt) k∧d+iZ (fun i=>(T.kid i).dep) k≤200∧A≤4096) (fun i _=>T.len - (intOf i).toNat)
   case atStart=>
    refine⟨0,a+1,by omega,rfl,aa ap,aa aF,rfl, ?_,by omega⟩
    simp only[iZ];omega
   case round=>
    obtain⟨k,A,hk,rfl,qq,fD,hA,hB,hA1⟩:=hrel;rcases cG k T.len with hkt | hkt
    ·obtain⟨fO,hdn,hT,bz,ih⟩:=aa HD
     have cw:=But.below bz fD hWg;have lo:=ms hT hkt;obtain⟨k0,k1,k2,k3,k4⟩:=hT.cells hkt;have k0:=av cw k0;have k1:=av cw k1;have k2:=av cw k2;have k3:=av cw k3;have k4:=av cw k4;unfold PT.kv at k4;have qU:g < wr.heap.size:=(bC.1 qq).1;have HI:=ab (ih k hkt W);have HT:=ab (hT.kids hkt);have lu:=ab cw;have HGR:=ab qq;have jj:=ab fD;have nP:=ab (And.intro hA hB);clear fO hdn hT bz ih cw qq fD hA hB;go_wp2_with fail;refine(aa HI _ g A (d+1) (aa HT) ((aa lu).alloc (aa lu).size _) hWg (ci qU (aa HGR)) hA1 (by omega) _ (by omega)).mono ?_
     rintro e w2 ⟨ok,a',rfl,eS,hb2,ht,hf⟩;have qA:=ab eS;have aE:=ab (((aa jj).alloc _).trans hb2);have vB:=ab (And.intro ht hf);clear eS hb2 ht hf
     cases ok
     ·go_wp2_with fail
      go_ret;refine⟨false,a',rfl,aa qA,aa aE,by simp,fun _=> ?_⟩
      obtain⟨fO,hdn,_⟩:=aa HD;have e1:=xQ (fun i=>(T.kid i).cnt) (show k+1≤T.len from hkt)
      have e2:=D3 (fun i=>(T.kid i).dep) (show k+1≤T.len from hkt)
      simp only[fy,iZ] at e1 e2;have h:=(aa vB).2 (by simp)
      have hA:=(aa nP).1;have hB:=(aa nP).2;omega
     ·go_wp2_with fail
      go_roundw
      case rel=>
       obtain⟨h1,h2,h3⟩:=(aa vB).1 (by simp)
       refine⟨k+1,a',by omega,by go_num,aa qA,aa aE, ?_, ?_,h3⟩
       ·have:=(aa nP).1
        simp only[fy];omega
       ·have:=(aa nP).2
        simp only[iZ];omega
      case measure=>simp[intOf];omega
    ·have hk':k=T.len:=by omega
     have HGR:=ab qq;have jj:=ab fD;have nP:=ab (And.intro hA hB);clear qq fD hA hB;go_wp2_with fail;go_ret;refine⟨true,A,rfl,aa HGR,aa jj,fun _=> ?_,by simp⟩
     obtain⟨fO,hdn,_⟩:=aa HD;have hA:=(aa nP).1;have hB:=(aa nP).2;rw[hk'] at hA hB;exact⟨by omega,by omega,hA1⟩
theorem MX:∀T:PT,BM T:=PT.ind Lw
theorem sQ (T:PT) (w:World) (hT:T.In w):
  Calls prog 24 #[pv T] w fun e w'=>e=.returned (.bool (!T.fits))∧Below w.heap.size w w':=by
 unfold pv;have HA:=ab (MX T w);have HT:=ab hT;clear hT;go_enter func24,ntmps24;go_wp2_with fail;have bz:=((aV w.heap.size w).alloc (aw _) (.cells #[.int .i64 T.k,.string T.t,.int .i64 T.n,.string T.nm,.slice T.xa T.len T.cap] 24)).alloc (by simp) (.cells #[.int .i64 0] 3)
 refine(aa HA _ (w.heap.size+1) 0 1 (aa HT) bz (by omega) (ax (by simp)) (by omega) (by omega) _ rfl).mono ?_
 rintro e w1 ⟨ok,a',rfl,hg,hb,ht,hf⟩;have HB:=ab (But.below bz hb (by omega))
 have HS:Hid ((!T.fits)= !ok):=ab (by
  unfold PT.fits;have:=T.dep_pos
  cases ok
  ·have h:=hf rfl
   simp;omega
  ·have h:=ht rfl
   simp;omega)
 clear bz hb ht hf hg HA;go_wp2_with fail;go_ret;exact⟨by rw[aa HS];rfl,aa HB⟩
end Go.Proofs.YtlmnjbipfacniaaGreatDoor
