/- What strings.Join answers, laid from the library. The writer -/
import Derived.Below
import Derived.Shelf.LaysM
import Derived.Shelf.Strings.Builder1
import Derived.Shelf.Strings.Builder2
import Derived.Shelf.Strings.OnBuilder
import Derived.Shelf.Small.Strs
import Derived.Test.YtlmnjbipfacniaaGreatDoorProg
import Derived.Test.YtlmnjbipfacniaaGreatDoorClone4M
import Derived.Test.YtlmnjbipfacniaaGreatDoorLexRepLibM
import Derived.Test.YtlmnjbipfacniaaGreatDoorWrBM
import Derived.Test.YtlmnjbipfacniaaGreatDoorWrJM
import Derived.Test.YtlmnjbipfacniaaGreatDoorRdLM
set_option maxRecDepth 100000
set_option maxHeartbeats 8000000
namespace Go.Proofs
open Go.Shelf Go.RowKit Go.Lib
def Tryz.lays156_ren:Go.Shelf.Ren:=⟨fun | 156=>44 | 165=>81 | 166=>82 | 169=>83 | 240=>129 | 241=>130 | 276=>145 | 277=>146 | n=>n,fun | 31=>28 | 9=>9 | 3=>3 | 4=>4 | 0=>0 | 20=>20 | 72=>133 | 76=>136 | 70=>131 | 37=>48 | 75=>135 | 127=>167 | 164=>179 | 5=>5 | 80=>106 | n=>n,fun | n=>n⟩
theorem Tryz.lays156:Go.Proofs.Lays.n156 Tryz.prog Tryz.lays156_ren:={
 mixed:=by kernel_rfl
 f156:=Tryz.func44.trans (congrArg some (by kernel_rfl))
 f165:=Tryz.func81.trans (congrArg some (by kernel_rfl))
 f166:=Tryz.func82.trans (congrArg some (by kernel_rfl))
 f169:=Tryz.func83.trans (congrArg some (by kernel_rfl))
 f240:=Tryz.func129.trans (congrArg some (by kernel_rfl))
 f241:=Tryz.func130.trans (congrArg some (by kernel_rfl))
 f276:=Tryz.func145.trans (congrArg some (by kernel_rfl))
 f277:=Tryz.func146.trans (congrArg some (by kernel_rfl))
 t0:=Tryz.underlying0
 a0:=Tryz.isAgg0
 z0:=Tryz.sizeOf0
 v0:=Tryz.zeroValue0
 t3:=Tryz.underlying3
 a3:=Tryz.isAgg3
 z3:=Tryz.sizeOf3
 v3:=Tryz.zeroValue3
 t4:=Tryz.underlying4
 a4:=Tryz.isAgg4
 z4:=Tryz.sizeOf4
 v4:=Tryz.zeroValue4
 t9:=Tryz.underlying9
 a9:=Tryz.isAgg9
 z9:=Tryz.sizeOf9
 v9:=Tryz.zeroValue9
 t20:=Tryz.underlying20
 a20:=Tryz.isAgg20
 z20:=Tryz.sizeOf20
 v20:=Tryz.zeroValue20
 t31:=Tryz.underlying28
 a31:=Tryz.isAgg28
 z31:=Tryz.sizeOf28
 v31:=Tryz.zeroValue28
 t37:=Tryz.underlying48
 a37:=Tryz.isAgg48
 z37:=Tryz.sizeOf48
 v37:=Tryz.zeroValue48
 t70:=Tryz.underlying131
 a70:=Tryz.isAgg131
 z70:=Tryz.sizeOf131
 v70:=Tryz.zeroValue131
 t72:=Tryz.underlying133
 a72:=Tryz.isAgg133
 z72:=Tryz.sizeOf133
 v72:=Tryz.zeroValue133
 t75:=Tryz.underlying135
 a75:=Tryz.isAgg135
 z75:=Tryz.sizeOf135
 v75:=Tryz.zeroValue135
 t76:=Tryz.underlying136
 a76:=Tryz.isAgg136
 z76:=Tryz.sizeOf136
 v76:=Tryz.zeroValue136
 t127:=Tryz.underlying167
 a127:=Tryz.isAgg167
 z127:=Tryz.sizeOf167
 v127:=Tryz.zeroValue167
 t164:=Tryz.underlying179
 a164:=Tryz.isAgg179
 z164:=Tryz.sizeOf179
 v164:=Tryz.zeroValue179}
theorem Tryz.Builder_Extra_156:Builder.Extra Tryz.prog Tryz.lays156_ren:={
 sizeBuilder:=by kernel_rfl
 liesBuilder:=by kernel_rfl
 t5:=Tryz.underlying5
 a5:=Tryz.isAgg5
 z5:=Tryz.sizeOf5
 v5:=Tryz.zeroValue5
 infoByte:=by kernel_rfl
 cellsByte:=by kernel_rfl
 sizeByte:=by kernel_rfl
 neB5:=by decide}
theorem Tryz.strings_Join_none (a:Option Addr) (c:Nat) (sep:ByteArray) (w:World):
  Calls Tryz.prog 44 #[.slice a 0 c,.string sep] w fun e w'=>e=.returned (.string ⟨#[]⟩)∧w'=w:=Any.strings_Join_none Tryz.lays156 Tryz.Builder_Extra_156 a c sep w
theorem Tryz.strings_Join (bk o c:Nat) (xs:List ByteArray) (sep:ByteArray) (w:World) (hcells:∀(j:Nat) x,xs[j]? =some x→w.cell? ⟨bk,o+j,none⟩=some (.string x)) (hbk:bk < w.heap.size) (hN:xs.length≤140737488355328) (hcap:xs.length≤c) (hlen:(Lib.join (xs.map (·.data.toList)) sep.data.toList).length≤140737488355328):
  Calls Tryz.prog 44 #[.slice (some ⟨bk,o,none⟩) xs.length c,.string sep] w fun e w'=>e=.returned (.string ⟨(Lib.join (xs.map (·.data.toList)) sep.data.toList).toArray⟩)∧Below w.heap.size w w':=Any.strings_Join Tryz.lays156 Tryz.Builder_Extra_156 bk o c xs sep w hcells hbk hN hcap hlen
end Go.Proofs
namespace Go.Proofs.YtlmnjbipfacniaaGreatDoor
open Go.Proofs.Tryz
open Go.RowKit
theorem BX:∀l:List ByteArray,Lib.join (l.map (·.data.toList)) [44]=ar (fD l)
 | []=>rfl
 | [x]=>by
  show x.data.toList++[]=x.data.toList++[];rfl
 | x::y::r=>by
  have ih:=BX (y::r);show x.data.toList++([44]++Lib.join ((y::r).map (·.data.toList)) [44])=ar (wd x::sg 44::fD (y::r))
  rw[ih,dA,dA];rfl
def sW (l:List ByteArray):ByteArray:=⟨(ar (fD l)).toArray⟩
theorem zT:∀l:List ByteArray,(∀x ∈ l,x.size≤16)→(ar (fD l)).length≤17 * l.length
 | [],_=>ax _
 | [x],h=>by
  have:=h x (by simp)
  show (x.data.toList++[]).length≤17;simp only[bg,List.length_nil,fh];omega
 | x::y::r,h=>by
  have h1:=h x (by simp)
  have ih:=zT (y::r) fun z hz=>h z (lY _ hz)
  show (x.data.toList++([44]++ar (fD (y::r)))).length≤_;rw[bg,bg,fh,List.length_singleton];simp only[List.length_cons] at ih ⊢;omega
theorem Ew (N:NL) (w:World) (hN:N.In w) (hs:∀x ∈ N.l,x.size≤16) (hl:N.l.length≤8):Calls prog 44 #[N.v,.string ⟨#[44]⟩] w fun e w'=>e=.returned (.string (sW N.l))∧Below w.heap.size w w':=by
 obtain⟨xa,gb,ob,cap,l⟩:=N;have hs:∀x ∈ l,x.size≤16:=hs;have hl:l.length≤8:=hl;have cM:=zT l hs
 by_cases h0:l=[]
 ·subst h0
  refine(Tryz.strings_Join_none xa cap ⟨#[44]⟩ w).mono fun e w' q=> ?_
  obtain⟨rfl,rfl⟩:=q;exact⟨rfl,aW _ _⟩
 ·have hp:0 < l.length:=AE.2 h0
  have oJ:xa=some ⟨gb,ob,none⟩:=hN.at_ hp;subst oJ;have hg:gb < w.heap.size:=de _ _ (hN.cell 0 l[0] (jH hp)).1;have:=Tryz.strings_Join gb ob cap l ⟨#[44]⟩ w (fun j x hx=>(hN.cell j x hx).1) hg (by omega) hN.cap (by
   show (Lib.join (l.map (·.data.toList)) [44]).length≤_
   rw[BX];omega)
  have e:Lib.join (l.map (·.data.toList)) (⟨#[44]⟩:ByteArray).data.toList=ar (fD l):=BX l
  rw[e] at this;exact this
open Go.RowKit
def xz:ByteArray:=⟨#[32,61,32]⟩
def xy:ByteArray:=⟨#[32,63,32]⟩
def tDfB:ByteArray:=⟨#[32,58,61,32]⟩
theorem pA:(prog.info? 30).map (·.size)=some 24:=by kernel_rfl
theorem il {t:ByteArray} (h:t.size≠0→bp t=true):t.size≤16:=by
 by_cases q:t.size=0
 ·omega
 ·exact(ms (h q)).2.1
theorem wR {T:PT} (h:T.fits=true):T.cnt≤4096:=by
 unfold PT.fits at h;rw[tj] at h;exact mG h.1
theorem stm_1 (S:SV) (pt:ByteArray) {W w:World} {B z:Nat} {v:Value} {o:List UInt8} {f:Bool} (hk:S.k=1) (hE:EnvW W) (hb:Below W.heap.size W w) (hz:W.heap.size≤z) (hW:WrI B z w v o f) (dx:S.In W) (eZ:S.wrong=0) (ho:max o.length 140000+500000≤9000000):
  Calls prog 20 #[.pointer (some ⟨z,0,none⟩),S.v,.string pt] w fun e w'=>iv B z w v o (ar (cj S)) f 500000 e w':=by
 have hzl:z < w.heap.size:=(bC.1 hW.blk).1;have bY:w.heap.size≠z:=by omega
 obtain⟨eH,cw⟩:=qi eZ;have kL:=il eH.lab;have oL:=il eH.al;have oK:=il eH.ye;have jY:=il eH.no;obtain⟨C,hC⟩:∃C,C=S.cells:=⟨_,rfl⟩;have dc:S.v=.agg C:=by rw[hC];rfl
 have gz:=ab dc;have dL:Hid (C.size=24):=ab (by rw[hC];rfl)
 have jX:Hid (C[2]? =some (.int .i64 S.tg.k)∧C[3]? =some (.string S.tg.t)∧C[4]? =some (.int .i64 S.tg.n)∧C[5]? =some (.string S.tg.nm)∧C[6]? =some (.slice S.tg.xa S.tg.len S.tg.cap)):=ab (by rw[hC];exact⟨rfl,rfl,rfl,rfl,rfl⟩)
 have gU:Hid (C[7]? =some (.int .i64 S.va.k)∧C[8]? =some (.string S.va.t)∧C[9]? =some (.int .i64 S.va.n)∧C[10]? =some (.string S.va.nm)∧C[11]? =some (.slice S.va.xa S.va.len S.va.cap)):=ab (by rw[hC];exact⟨rfl,rfl,rfl,rfl,rfl⟩)
 have pO:Hid (C[17]? =some (.string S.nm)∧C[18]? =some (.string S.en)∧C[19]? =some S.ps.v∧C[20]? =some S.ls.v):=ab (by rw[hC];exact⟨rfl,rfl,rfl,rfl⟩)
 have fm:C[0]? =some (.string S.lab):=by rw[hC];rfl
 have dM:C[1]? =some (.int .i64 S.k):=by rw[hC];rfl
 have cK:=ab dM;rw[dc];obtain⟨w1,aL⟩:∃w1,w1=w.alloc (.cells C 30):=⟨_,rfl⟩;have bz:Below w.heap.size w w1:=by rw[aL];exact ba _
 have an:w1.heap[w.heap.size]? =some (.cells C 30 (0,0)):=by rw[aL];exact aw rfl
 have H1:=ab ((Wn.start hb hW).below bz);have bq:=ab an;have bP:Hid (w1.heap.size=w.heap.size+1):=ab (by rw[aL];simp)
 have bi:Hid (w.alloc (.cells C 30)=w1):=ab (aL.symm);have HZ:=ab (And.intro hE hz);have je:=ab dx;have iH:Hid (ar (if S.lab.size=0 then [] else [wd S.lab])=S.lab.data.toList):=ab (by
  by_cases q:S.lab.size=0
  ·rw[af q];exact(kJ (by rw[fh];exact q)).symm
  ·rw[ac q];exact k9 _)
 have c0:=bE an fm;have c1:=bE an dM;rw[aL] at c0 c1;clear hE hb hW bz an aL hC dc dx eZ eH fm dM;rw[hk] at c1 cK;have HI:Hid (ar (cj S)=S.lab.data.toList++([]++ar (dG S))):=ab (by
  unfold cj iM;rw[gj,gj,aa iH,hk];rfl)
 clear cw hk iH;have cf:Hid (Calls prog 42 #[.pointer (some ⟨z,0,none⟩),.slice (some ⟨w1.heap.size,0,none⟩) 1 1] (w1.alloc (.cells #[.string S.lab] 9)) _):=ab ((aa H1).put (aa HZ).1 (aa HZ).2 (by omega) [S.lab] (by simp) (fun t ht=>by simp only[dU,ek,fL] at ht;subst ht;omega) 16 (by show (bN [S.lab]).length≤16;unfold bN;simp only[ia,iQ,bg,List.length_nil,fh];omega))
 rw[aa bP] at cf;go_enter func20,ntmps20;go_wp2_with fail;rw[aa bi];refine(aa cf).mono ?_;rintro e w2 ⟨rfl,v2,o2,f2,h2,cN⟩;have cR:=ab (cN.keep (aa H1).wr (aa bq) (by decide) bY)
 have H2:=ab h2;clear h2 cN cf H1;clear c0 c1;have c1:=bE (aa cR) (aa cK);have eB:=ab (vR S (aa HZ).1 (aa H2).bel (aa HZ).2 (aa H2).wr oL oK jY ((aa H2).len2 (by omega)))
 rw[aa gz] at eB;go_wp2_with (first
  | (refine gG rfl 30 _ rfl w.heap.size rfl 30 C (0,0) _ (aa cR) underlying30 rfl (pA.trans (by rw[aa dL])) ?_)
  | fail)
 refine(aa eB).mono ?_;rintro e w3 ⟨rfl,be⟩;obtain⟨v3,o3,f3,h3, -⟩:=(aa H2).sub (aa HZ).2 be;have HF:=ab (h3.done (t:=ar (cj S)) (c:=500000) (by rw[aa HI];rw[fJ];show []++S.lab.data.toList++ar (dG S)=_;simp) (by omega))
 clear be h3 eB H2;go_wp2_with fail;go_end0;exact⟨rfl,aa HF⟩
theorem stm_2 (S:SV) (pt:ByteArray) {W w:World} {B z:Nat} {v:Value} {o:List UInt8} {f:Bool} (hk:S.k=2) (hE:EnvW W) (hb:Below W.heap.size W w) (hz:W.heap.size≤z) (hW:WrI B z w v o f) (dx:S.In W) (eZ:S.wrong=0) (ho:max o.length 140000+500000≤9000000):
  Calls prog 20 #[.pointer (some ⟨z,0,none⟩),S.v,.string pt] w fun e w'=>iv B z w v o (ar (cj S)) f 500000 e w':=by
 have hzl:z < w.heap.size:=(bC.1 hW.blk).1;have bY:w.heap.size≠z:=by omega
 obtain⟨eH,cw⟩:=qi eZ;have kL:=il eH.lab;have oL:=il eH.al;have oK:=il eH.ye;have jY:=il eH.no;obtain⟨C,hC⟩:∃C,C=S.cells:=⟨_,rfl⟩;have dc:S.v=.agg C:=by rw[hC];rfl
 have gz:=ab dc;have dL:Hid (C.size=24):=ab (by rw[hC];rfl)
 have jX:Hid (C[2]? =some (.int .i64 S.tg.k)∧C[3]? =some (.string S.tg.t)∧C[4]? =some (.int .i64 S.tg.n)∧C[5]? =some (.string S.tg.nm)∧C[6]? =some (.slice S.tg.xa S.tg.len S.tg.cap)):=ab (by rw[hC];exact⟨rfl,rfl,rfl,rfl,rfl⟩)
 have gU:Hid (C[7]? =some (.int .i64 S.va.k)∧C[8]? =some (.string S.va.t)∧C[9]? =some (.int .i64 S.va.n)∧C[10]? =some (.string S.va.nm)∧C[11]? =some (.slice S.va.xa S.va.len S.va.cap)):=ab (by rw[hC];exact⟨rfl,rfl,rfl,rfl,rfl⟩)
 have pO:Hid (C[17]? =some (.string S.nm)∧C[18]? =some (.string S.en)∧C[19]? =some S.ps.v∧C[20]? =some S.ls.v):=ab (by rw[hC];exact⟨rfl,rfl,rfl,rfl⟩)
 have fm:C[0]? =some (.string S.lab):=by rw[hC];rfl
 have dM:C[1]? =some (.int .i64 S.k):=by rw[hC];rfl
 have cK:=ab dM;rw[dc];obtain⟨w1,aL⟩:∃w1,w1=w.alloc (.cells C 30):=⟨_,rfl⟩;have bz:Below w.heap.size w w1:=by rw[aL];exact ba _
 have an:w1.heap[w.heap.size]? =some (.cells C 30 (0,0)):=by rw[aL];exact aw rfl
 have H1:=ab ((Wn.start hb hW).below bz);have bq:=ab an;have bP:Hid (w1.heap.size=w.heap.size+1):=ab (by rw[aL];simp)
 have bi:Hid (w.alloc (.cells C 30)=w1):=ab (aL.symm);have HZ:=ab (And.intro hE hz);have je:=ab dx;have iH:Hid (ar (if S.lab.size=0 then [] else [wd S.lab])=S.lab.data.toList):=ab (by
  by_cases q:S.lab.size=0
  ·rw[af q];exact(kJ (by rw[fh];exact q)).symm
  ·rw[ac q];exact k9 _)
 have c0:=bE an fm;have c1:=bE an dM;rw[aL] at c0 c1;clear hE hb hW bz an aL hC dc dx eZ eH fm dM;rw[hk] at c1 cK;have iC:S.va.wrongX=0:=by
  unfold SV.kndE at cw;rw[hk] at cw;exact cw
 have ws:=(fG iC).2;have CN:=wR (fG iC).1;clear iC;have HI:Hid (ar (cj S)=S.lab.data.toList++(([32]++ar (S.va.atl 0))++ar (dG S))):=ab (by
  unfold cj iM;rw[gj,gj,aa iH,hk];show _++(ar (bl::S.va.exI)++_)=_;rw[dA,ux];rfl)
 clear cw hk iH;have cf:Hid (Calls prog 42 #[.pointer (some ⟨z,0,none⟩),.slice (some ⟨w1.heap.size,0,none⟩) 1 1] (w1.alloc (.cells #[.string S.lab] 9)) _):=ab ((aa H1).put (aa HZ).1 (aa HZ).2 (by omega) [S.lab] (by simp) (fun t ht=>by simp only[dU,ek,fL] at ht;subst ht;omega) 16 (by show (bN [S.lab]).length≤16;unfold bN;simp only[ia,iQ,bg,List.length_nil,fh];omega))
 rw[aa bP] at cf;go_enter func20,ntmps20;go_wp2_with fail;rw[aa bi];refine(aa cf).mono ?_;rintro e w2 ⟨rfl,v2,o2,f2,h2,cN⟩;have cR:=ab (cN.keep (aa H1).wr (aa bq) (by decide) bY)
 have H2:=ab h2;clear h2 cN cf H1;clear c0 c1;have c1:=bE (aa cR) (aa cK);have e32:(ah 32).size=1:=rfl;have dW:Hid (Calls prog 42 #[.pointer (some ⟨z,0,none⟩),.slice (some ⟨w2.heap.size,0,none⟩) 1 1] (w2.alloc (.cells #[.string ⟨#[32]⟩] 9)) _):=ab ((aa H2).put (aa HZ).1 (aa HZ).2 (by omega) [ah 32] (by simp) (fun t ht=>by simp only[dU,ek,fL] at ht;subst ht;omega) 1 (by show (bN [ah 32]).length≤1;unfold bN;simp only[ia,iQ,bg,List.length_nil,fh];omega))
 go_wp2_with fail;refine(aa dW).mono ?_;rintro e w3 ⟨rfl,v3,o3,f3,h3,dp⟩;have cY:=ab (dp.keep (aa H2).wr (aa cR) (by decide) bY)
 have H3:=ab h3;clear h3 dp dW H2;clear c1;have c1:=bE (aa cY) (aa cK);have cZ:Hid (Calls prog 43 #[.pointer (some ⟨z,0,none⟩),.agg #[.int .i64 S.va.k,.string S.va.t,.int .i64 S.va.n,.string S.va.nm,.slice S.va.xa S.va.len S.va.cap],.int .i64 0] w3 fun e w'=>iv B z w3 v3 o3 (ar (S.va.atl 0)) f3 (40 * S.va.cnt) e w'):=ab (wS S.va W w3 B z v3 o3 f3 0 (aa HZ).1 (aa je).va (aa H3).bel (aa HZ).2 (aa H3).wr ws ((aa H3).len2 (by omega)))
 obtain⟨m0,m1,m2,m3,m4⟩:=aa gU;have g0:=bE (aa cY) m0;have g1:=bE (aa cY) m1;have g2:=bE (aa cY) m2;have g3:=bE (aa cY) m3;have g4:=bE (aa cY) m4;clear m0 m1 m2 m3 m4;go_wp2_with fail;refine(aa cZ).mono ?_;rintro e w4 ⟨rfl,be⟩;obtain⟨v4,o4,f4,h4,cy⟩:=(aa H3).sub (aa HZ).2 be;have lK:=ab (cy.keep (aa H3).wr (aa cY) (by decide) bY)
 have H4:=ab h4;clear be h4 cy cZ H3 g0 g1 g2 g3 g4;clear c1;have gB:=ab (vR S (aa HZ).1 (aa H4).bel (aa HZ).2 (aa H4).wr oL oK jY ((aa H4).len2 (by omega)))
 rw[aa gz] at gB;go_wp2_with (first
  | (refine gG rfl 30 _ rfl w.heap.size rfl 30 C (0,0) _ (aa lK) underlying30 rfl (pA.trans (by rw[aa dL])) ?_)
  | fail)
 refine(aa gB).mono ?_;rintro e w5 ⟨rfl,be⟩;obtain⟨v5,o5,f5,h5, -⟩:=(aa H4).sub (aa HZ).2 be;have HF:=ab (h5.done (t:=ar (cj S)) (c:=500000) (by rw[aa HI];rw[fJ,fJ];show []++S.lab.data.toList++[32]++ar (S.va.atl 0)++ar (dG S)=_;simp) (by omega))
 clear be h5 gB H4;go_wp2_with fail;go_end0;exact⟨rfl,aa HF⟩
theorem stm_3 (S:SV) (pt:ByteArray) {W w:World} {B z:Nat} {v:Value} {o:List UInt8} {f:Bool} (hk:S.k=3) (hE:EnvW W) (hb:Below W.heap.size W w) (hz:W.heap.size≤z) (hW:WrI B z w v o f) (dx:S.In W) (eZ:S.wrong=0) (ho:max o.length 140000+500000≤9000000):
  Calls prog 20 #[.pointer (some ⟨z,0,none⟩),S.v,.string pt] w fun e w'=>iv B z w v o (ar (cj S)) f 500000 e w':=by
 have hzl:z < w.heap.size:=(bC.1 hW.blk).1;have bY:w.heap.size≠z:=by omega
 obtain⟨eH,cw⟩:=qi eZ;have kL:=il eH.lab;have oL:=il eH.al;have oK:=il eH.ye;have jY:=il eH.no;obtain⟨C,hC⟩:∃C,C=S.cells:=⟨_,rfl⟩;have dc:S.v=.agg C:=by rw[hC];rfl
 have gz:=ab dc;have dL:Hid (C.size=24):=ab (by rw[hC];rfl)
 have jX:Hid (C[2]? =some (.int .i64 S.tg.k)∧C[3]? =some (.string S.tg.t)∧C[4]? =some (.int .i64 S.tg.n)∧C[5]? =some (.string S.tg.nm)∧C[6]? =some (.slice S.tg.xa S.tg.len S.tg.cap)):=ab (by rw[hC];exact⟨rfl,rfl,rfl,rfl,rfl⟩)
 have gU:Hid (C[7]? =some (.int .i64 S.va.k)∧C[8]? =some (.string S.va.t)∧C[9]? =some (.int .i64 S.va.n)∧C[10]? =some (.string S.va.nm)∧C[11]? =some (.slice S.va.xa S.va.len S.va.cap)):=ab (by rw[hC];exact⟨rfl,rfl,rfl,rfl,rfl⟩)
 have pO:Hid (C[17]? =some (.string S.nm)∧C[18]? =some (.string S.en)∧C[19]? =some S.ps.v∧C[20]? =some S.ls.v):=ab (by rw[hC];exact⟨rfl,rfl,rfl,rfl⟩)
 have fm:C[0]? =some (.string S.lab):=by rw[hC];rfl
 have dM:C[1]? =some (.int .i64 S.k):=by rw[hC];rfl
 have cK:=ab dM;rw[dc];obtain⟨w1,aL⟩:∃w1,w1=w.alloc (.cells C 30):=⟨_,rfl⟩;have bz:Below w.heap.size w w1:=by rw[aL];exact ba _
 have an:w1.heap[w.heap.size]? =some (.cells C 30 (0,0)):=by rw[aL];exact aw rfl
 have H1:=ab ((Wn.start hb hW).below bz);have bq:=ab an;have bP:Hid (w1.heap.size=w.heap.size+1):=ab (by rw[aL];simp)
 have bi:Hid (w.alloc (.cells C 30)=w1):=ab (aL.symm);have HZ:=ab (And.intro hE hz);have je:=ab dx;have iH:Hid (ar (if S.lab.size=0 then [] else [wd S.lab])=S.lab.data.toList):=ab (by
  by_cases q:S.lab.size=0
  ·rw[af q];exact(kJ (by rw[fh];exact q)).symm
  ·rw[ac q];exact k9 _)
 have c0:=bE an fm;have c1:=bE an dM;rw[aL] at c0 c1;clear hE hb hW bz an aL hC dc dx eZ eH fm dM;rw[hk] at c1 cK;have hq:dN [jo S.tg,S.va.wrongX]=0:=by
  unfold SV.kndE at cw;rw[hk] at cw;exact cw
 have li:=(rz (cI hq).1).1;have iC:=(cI (cI hq).2).1;have ws:=(fG iC).2;have CN:=wR (fG iC).1;have CR:=(fG li).2;have hn_tg:=wR (fG li).1;clear hq li iC;have e3:xz.size=3:=rfl;have HI:Hid (ar (cj S)=S.lab.data.toList++(([32]++(ar (S.tg.atl 0)++([32,61,32]++ar (S.va.atl 0))))++ar (dG S))):=ab (by
  unfold cj iM;rw[gj,gj,aa iH,hk];show _++(ar (bl::(S.tg.exI++(bl::sg 61::bl::S.va.exI)))++_)=_;rw[dA,gj,dA,dA,dA,ux,ux];rfl)
 clear cw hk iH;have cf:Hid (Calls prog 42 #[.pointer (some ⟨z,0,none⟩),.slice (some ⟨w1.heap.size,0,none⟩) 1 1] (w1.alloc (.cells #[.string S.lab] 9)) _):=ab ((aa H1).put (aa HZ).1 (aa HZ).2 (by omega) [S.lab] (by simp) (fun t ht=>by simp only[dU,ek,fL] at ht;subst ht;omega) 16 (by show (bN [S.lab]).length≤16;unfold bN;simp only[ia,iQ,bg,List.length_nil,fh];omega))
 rw[aa bP] at cf;go_enter func20,ntmps20;go_wp2_with fail;rw[aa bi];refine(aa cf).mono ?_;rintro e w2 ⟨rfl,v2,o2,f2,h2,cN⟩;have cR:=ab (cN.keep (aa H1).wr (aa bq) (by decide) bY)
 have H2:=ab h2;clear h2 cN cf H1;clear c0 c1;have c1:=bE (aa cR) (aa cK);have e32:(ah 32).size=1:=rfl;have dW:Hid (Calls prog 42 #[.pointer (some ⟨z,0,none⟩),.slice (some ⟨w2.heap.size,0,none⟩) 1 1] (w2.alloc (.cells #[.string ⟨#[32]⟩] 9)) _):=ab ((aa H2).put (aa HZ).1 (aa HZ).2 (by omega) [ah 32] (by simp) (fun t ht=>by simp only[dU,ek,fL] at ht;subst ht;omega) 1 (by show (bN [ah 32]).length≤1;unfold bN;simp only[ia,iQ,bg,List.length_nil,fh];omega))
 go_wp2_with fail;refine(aa dW).mono ?_;rintro e w3 ⟨rfl,v3,o3,f3,h3,dp⟩;have cY:=ab (dp.keep (aa H2).wr (aa cR) (by decide) bY)
 have H3:=ab h3;clear h3 dp dW H2;clear c1;have c1:=bE (aa cY) (aa cK);have cZ:Hid (Calls prog 43 #[.pointer (some ⟨z,0,none⟩),.agg #[.int .i64 S.tg.k,.string S.tg.t,.int .i64 S.tg.n,.string S.tg.nm,.slice S.tg.xa S.tg.len S.tg.cap],.int .i64 0] w3 fun e w'=>iv B z w3 v3 o3 (ar (S.tg.atl 0)) f3 (40 * S.tg.cnt) e w'):=ab (wS S.tg W w3 B z v3 o3 f3 0 (aa HZ).1 (aa je).tg (aa H3).bel (aa HZ).2 (aa H3).wr CR ((aa H3).len2 (by omega)))
 obtain⟨m0,m1,m2,m3,m4⟩:=aa jX;have g0:=bE (aa cY) m0;have g1:=bE (aa cY) m1;have g2:=bE (aa cY) m2;have g3:=bE (aa cY) m3;have g4:=bE (aa cY) m4;clear m0 m1 m2 m3 m4;go_wp2_with fail;refine(aa cZ).mono ?_;rintro e w4 ⟨rfl,be⟩;obtain⟨v4,o4,f4,h4,cy⟩:=(aa H3).sub (aa HZ).2 be;have lK:=ab (cy.keep (aa H3).wr (aa cY) (by decide) bY)
 have H4:=ab h4;clear be h4 cy cZ H3 g0 g1 g2 g3 g4;clear c1;have iq:Hid (Calls prog 42 #[.pointer (some ⟨z,0,none⟩),.slice (some ⟨w4.heap.size,0,none⟩) 1 1] (w4.alloc (.cells #[.string ⟨#[32,61,32]⟩] 9)) _):=ab ((aa H4).put (aa HZ).1 (aa HZ).2 (by omega) [xz] (by simp) (fun t ht=>by simp only[dU,ek,fL] at ht;subst ht;omega) 3 (by show (bN [xz]).length≤3;unfold bN;simp only[ia,iQ,bg,List.length_nil,fh];omega))
 go_wp2_with fail;refine(aa iq).mono ?_;rintro e w5 ⟨rfl,v5,o5,f5,h5,go⟩;have jI:=ab (go.keep (aa H4).wr (aa lK) (by decide) bY)
 have H5:=ab h5;clear h5 go iq H4;have pd:Hid (Calls prog 43 #[.pointer (some ⟨z,0,none⟩),.agg #[.int .i64 S.va.k,.string S.va.t,.int .i64 S.va.n,.string S.va.nm,.slice S.va.xa S.va.len S.va.cap],.int .i64 0] w5 fun e w'=>iv B z w5 v5 o5 (ar (S.va.atl 0)) f5 (40 * S.va.cnt) e w'):=ab (wS S.va W w5 B z v5 o5 f5 0 (aa HZ).1 (aa je).va (aa H5).bel (aa HZ).2 (aa H5).wr ws ((aa H5).len2 (by omega)))
 obtain⟨m0,m1,m2,m3,m4⟩:=aa gU;have g0:=bE (aa jI) m0;have g1:=bE (aa jI) m1;have g2:=bE (aa jI) m2;have g3:=bE (aa jI) m3;have g4:=bE (aa jI) m4;clear m0 m1 m2 m3 m4;go_wp2_with fail;refine(aa pd).mono ?_;rintro e w6 ⟨rfl,be⟩;obtain⟨v6,o6,f6,h6,l4⟩:=(aa H5).sub (aa HZ).2 be;have lf:=ab (l4.keep (aa H5).wr (aa jI) (by decide) bY)
 have H6:=ab h6;clear be h6 l4 pd H5 g0 g1 g2 g3 g4;have pb:=ab (vR S (aa HZ).1 (aa H6).bel (aa HZ).2 (aa H6).wr oL oK jY ((aa H6).len2 (by omega)))
 rw[aa gz] at pb;go_wp2_with (first
  | (refine gG rfl 30 _ rfl w.heap.size rfl 30 C (0,0) _ (aa lf) underlying30 rfl (pA.trans (by rw[aa dL])) ?_)
  | fail)
 refine(aa pb).mono ?_;rintro e w7 ⟨rfl,be⟩;obtain⟨v7,o7,f7,h7, -⟩:=(aa H6).sub (aa HZ).2 be;have HF:=ab (h7.done (t:=ar (cj S)) (c:=500000) (by rw[aa HI];rw[fJ,fJ,fJ];show []++S.lab.data.toList++[32]++ar (S.tg.atl 0)++[32,61,32]++ar (S.va.atl 0)++ar (dG S)=_;simp) (by omega))
 clear be h7 pb H6;go_wp2_with fail;go_end0;exact⟨rfl,aa HF⟩
theorem stm_4 (S:SV) (pt:ByteArray) {W w:World} {B z:Nat} {v:Value} {o:List UInt8} {f:Bool} (hk:S.k=4) (hE:EnvW W) (hb:Below W.heap.size W w) (hz:W.heap.size≤z) (hW:WrI B z w v o f) (dx:S.In W) (eZ:S.wrong=0) (hp:pt.data.toList=91::(S.pa.txt++[93])) (mK:pt.size≤65538) (ho:max o.length 140000+500000≤9000000):
  Calls prog 20 #[.pointer (some ⟨z,0,none⟩),S.v,.string pt] w fun e w'=>iv B z w v o (ar (cj S)) f 500000 e w':=by
 have hzl:z < w.heap.size:=(bC.1 hW.blk).1;have bY:w.heap.size≠z:=by omega
 obtain⟨eH,cw⟩:=qi eZ;have kL:=il eH.lab;have oL:=il eH.al;have oK:=il eH.ye;have jY:=il eH.no;obtain⟨C,hC⟩:∃C,C=S.cells:=⟨_,rfl⟩;have dc:S.v=.agg C:=by rw[hC];rfl
 have gz:=ab dc;have dL:Hid (C.size=24):=ab (by rw[hC];rfl)
 have jX:Hid (C[2]? =some (.int .i64 S.tg.k)∧C[3]? =some (.string S.tg.t)∧C[4]? =some (.int .i64 S.tg.n)∧C[5]? =some (.string S.tg.nm)∧C[6]? =some (.slice S.tg.xa S.tg.len S.tg.cap)):=ab (by rw[hC];exact⟨rfl,rfl,rfl,rfl,rfl⟩)
 have gU:Hid (C[7]? =some (.int .i64 S.va.k)∧C[8]? =some (.string S.va.t)∧C[9]? =some (.int .i64 S.va.n)∧C[10]? =some (.string S.va.nm)∧C[11]? =some (.slice S.va.xa S.va.len S.va.cap)):=ab (by rw[hC];exact⟨rfl,rfl,rfl,rfl,rfl⟩)
 have pO:Hid (C[17]? =some (.string S.nm)∧C[18]? =some (.string S.en)∧C[19]? =some S.ps.v∧C[20]? =some S.ls.v):=ab (by rw[hC];exact⟨rfl,rfl,rfl,rfl⟩)
 have fm:C[0]? =some (.string S.lab):=by rw[hC];rfl
 have dM:C[1]? =some (.int .i64 S.k):=by rw[hC];rfl
 have cK:=ab dM;rw[dc];obtain⟨w1,aL⟩:∃w1,w1=w.alloc (.cells C 30):=⟨_,rfl⟩;have bz:Below w.heap.size w w1:=by rw[aL];exact ba _
 have an:w1.heap[w.heap.size]? =some (.cells C 30 (0,0)):=by rw[aL];exact aw rfl
 have H1:=ab ((Wn.start hb hW).below bz);have bq:=ab an;have bP:Hid (w1.heap.size=w.heap.size+1):=ab (by rw[aL];simp)
 have bi:Hid (w.alloc (.cells C 30)=w1):=ab (aL.symm);have HZ:=ab (And.intro hE hz);have je:=ab dx;have iH:Hid (ar (if S.lab.size=0 then [] else [wd S.lab])=S.lab.data.toList):=ab (by
  by_cases q:S.lab.size=0
  ·rw[af q];exact(kJ (by rw[fh];exact q)).symm
  ·rw[ac q];exact k9 _)
 have c0:=bE an fm;have c1:=bE an dM;rw[aL] at c0 c1;clear hE hb hW bz an aL hC dc dx eZ eH fm dM;rw[hk] at c1 cK;have hq:dN [S.va.wrongX,S.pa.wrong]=0:=by
  unfold SV.kndE at cw;rw[hk] at cw;exact cw
 have iC:=(cI hq).1;have ws:=(fG iC).2;have CN:=wR (fG iC).1;clear hq iC;have e3:xy.size=3:=rfl;obtain⟨cP,hcP⟩:∃cP:Nat,cP=65541:=⟨_,rfl⟩;have HI:Hid (ar (cj S)=S.lab.data.toList++(([32]++(ar (S.va.atl 0)++([32,63,32]++pt.data.toList)))++ar (dG S))):=ab (by
  unfold cj iM;rw[gj,gj,aa iH,hk];show _++(ar (bl::(S.va.exI++(bl::sg 63::bl::[sU S])))++_)=_;rw[dA,gj,dA,dA,dA,dA,ux,hp];show _++(([32]++(ar S.va.exI++([32]++([63]++([32]++((91::(S.pa.txt++[93]))++[]))))))++_)=_;simp)
 clear cw hk iH;have cf:Hid (Calls prog 42 #[.pointer (some ⟨z,0,none⟩),.slice (some ⟨w1.heap.size,0,none⟩) 1 1] (w1.alloc (.cells #[.string S.lab] 9)) _):=ab ((aa H1).put (aa HZ).1 (aa HZ).2 (by omega) [S.lab] (by simp) (fun t ht=>by simp only[dU,ek,fL] at ht;subst ht;omega) 16 (by show (bN [S.lab]).length≤16;unfold bN;simp only[ia,iQ,bg,List.length_nil,fh];omega))
 rw[aa bP] at cf;go_enter func20,ntmps20;go_wp2_with fail;rw[aa bi];refine(aa cf).mono ?_;rintro e w2 ⟨rfl,v2,o2,f2,h2,cN⟩;have cR:=ab (cN.keep (aa H1).wr (aa bq) (by decide) bY)
 have H2:=ab h2;clear h2 cN cf H1;clear c0 c1;have c1:=bE (aa cR) (aa cK);have e32:(ah 32).size=1:=rfl;have dW:Hid (Calls prog 42 #[.pointer (some ⟨z,0,none⟩),.slice (some ⟨w2.heap.size,0,none⟩) 1 1] (w2.alloc (.cells #[.string ⟨#[32]⟩] 9)) _):=ab ((aa H2).put (aa HZ).1 (aa HZ).2 (by omega) [ah 32] (by simp) (fun t ht=>by simp only[dU,ek,fL] at ht;subst ht;omega) 1 (by show (bN [ah 32]).length≤1;unfold bN;simp only[ia,iQ,bg,List.length_nil,fh];omega))
 go_wp2_with fail;refine(aa dW).mono ?_;rintro e w3 ⟨rfl,v3,o3,f3,h3,dp⟩;have cY:=ab (dp.keep (aa H2).wr (aa cR) (by decide) bY)
 have H3:=ab h3;clear h3 dp dW H2;clear c1;have c1:=bE (aa cY) (aa cK);have cZ:Hid (Calls prog 43 #[.pointer (some ⟨z,0,none⟩),.agg #[.int .i64 S.va.k,.string S.va.t,.int .i64 S.va.n,.string S.va.nm,.slice S.va.xa S.va.len S.va.cap],.int .i64 0] w3 fun e w'=>iv B z w3 v3 o3 (ar (S.va.atl 0)) f3 (40 * S.va.cnt) e w'):=ab (wS S.va W w3 B z v3 o3 f3 0 (aa HZ).1 (aa je).va (aa H3).bel (aa HZ).2 (aa H3).wr ws ((aa H3).len2 (by omega)))
 obtain⟨m0,m1,m2,m3,m4⟩:=aa gU;have g0:=bE (aa cY) m0;have g1:=bE (aa cY) m1;have g2:=bE (aa cY) m2;have g3:=bE (aa cY) m3;have g4:=bE (aa cY) m4;clear m0 m1 m2 m3 m4;go_wp2_with fail;refine(aa cZ).mono ?_;rintro e w4 ⟨rfl,be⟩;obtain⟨v4,o4,f4,h4,cy⟩:=(aa H3).sub (aa HZ).2 be;have lK:=ab (cy.keep (aa H3).wr (aa cY) (by decide) bY)
 have H4:=ab h4;clear be h4 cy cZ H3 g0 g1 g2 g3 g4;clear c1;have iq:Hid (Calls prog 42 #[.pointer (some ⟨z,0,none⟩),.slice (some ⟨w4.heap.size,0,none⟩) 2 2] (w4.alloc (.cells #[.string ⟨#[32,63,32]⟩,.string pt] 9)) _):=ab ((aa H4).put (aa HZ).1 (aa HZ).2 (by omega) [xy,pt] (by simp) (fun t ht=>by simp only[dU,ek,fL] at ht;rcases ht with rfl | rfl <;> omega) cP (by show (bN [xy,pt]).length≤cP;unfold bN;simp only[ia,iQ,bg,List.length_nil,fh];omega))
 go_wp2_with fail;refine(aa iq).mono ?_;rintro e w5 ⟨rfl,v5,o5,f5,h5,go⟩;have jI:=ab (go.keep (aa H4).wr (aa lK) (by decide) bY)
 have H5:=ab h5;clear h5 go iq H4;have pd:=ab (vR S (aa HZ).1 (aa H5).bel (aa HZ).2 (aa H5).wr oL oK jY ((aa H5).len2 (by omega)))
 rw[aa gz] at pd;go_wp2_with (first
  | (refine gG rfl 30 _ rfl w.heap.size rfl 30 C (0,0) _ (aa jI) underlying30 rfl (pA.trans (by rw[aa dL])) ?_)
  | fail)
 refine(aa pd).mono ?_;rintro e w6 ⟨rfl,be⟩;obtain⟨v6,o6,f6,h6, -⟩:=(aa H5).sub (aa HZ).2 be;have HF:=ab (h6.done (t:=ar (cj S)) (c:=500000) (by rw[aa HI];rw[fJ,fJ,kE,fJ];show []++S.lab.data.toList++[32]++ar (S.va.atl 0)++([32,63,32]++pt.data.toList)++ar (dG S)=_;simp) (by omega))
 clear be h6 pd H5;go_wp2_with fail;go_end0;exact⟨rfl,aa HF⟩
theorem stm_5 (S:SV) (pt:ByteArray) {W w:World} {B z:Nat} {v:Value} {o:List UInt8} {f:Bool} (hk:S.k=5) (hE:EnvW W) (hb:Below W.heap.size W w) (hz:W.heap.size≤z) (hW:WrI B z w v o f) (dx:S.In W) (eZ:S.wrong=0) (hp:pt.data.toList=91::(S.pa.txt++[93])) (mK:pt.size≤65538) (ho:max o.length 140000+500000≤9000000):
  Calls prog 20 #[.pointer (some ⟨z,0,none⟩),S.v,.string pt] w fun e w'=>iv B z w v o (ar (cj S)) f 500000 e w':=by
 have hzl:z < w.heap.size:=(bC.1 hW.blk).1;have bY:w.heap.size≠z:=by omega
 obtain⟨eH,cw⟩:=qi eZ;have kL:=il eH.lab;have oL:=il eH.al;have oK:=il eH.ye;have jY:=il eH.no;obtain⟨C,hC⟩:∃C,C=S.cells:=⟨_,rfl⟩;have dc:S.v=.agg C:=by rw[hC];rfl
 have gz:=ab dc;have dL:Hid (C.size=24):=ab (by rw[hC];rfl)
 have jX:Hid (C[2]? =some (.int .i64 S.tg.k)∧C[3]? =some (.string S.tg.t)∧C[4]? =some (.int .i64 S.tg.n)∧C[5]? =some (.string S.tg.nm)∧C[6]? =some (.slice S.tg.xa S.tg.len S.tg.cap)):=ab (by rw[hC];exact⟨rfl,rfl,rfl,rfl,rfl⟩)
 have gU:Hid (C[7]? =some (.int .i64 S.va.k)∧C[8]? =some (.string S.va.t)∧C[9]? =some (.int .i64 S.va.n)∧C[10]? =some (.string S.va.nm)∧C[11]? =some (.slice S.va.xa S.va.len S.va.cap)):=ab (by rw[hC];exact⟨rfl,rfl,rfl,rfl,rfl⟩)
 have pO:Hid (C[17]? =some (.string S.nm)∧C[18]? =some (.string S.en)∧C[19]? =some S.ps.v∧C[20]? =some S.ls.v):=ab (by rw[hC];exact⟨rfl,rfl,rfl,rfl⟩)
 have fm:C[0]? =some (.string S.lab):=by rw[hC];rfl
 have dM:C[1]? =some (.int .i64 S.k):=by rw[hC];rfl
 have cK:=ab dM;rw[dc];obtain⟨w1,aL⟩:∃w1,w1=w.alloc (.cells C 30):=⟨_,rfl⟩;have bz:Below w.heap.size w w1:=by rw[aL];exact ba _
 have an:w1.heap[w.heap.size]? =some (.cells C 30 (0,0)):=by rw[aL];exact aw rfl
 have H1:=ab ((Wn.start hb hW).below bz);have bq:=ab an;have bP:Hid (w1.heap.size=w.heap.size+1):=ab (by rw[aL];simp)
 have bi:Hid (w.alloc (.cells C 30)=w1):=ab (aL.symm);have HZ:=ab (And.intro hE hz);have je:=ab dx;have iH:Hid (ar (if S.lab.size=0 then [] else [wd S.lab])=S.lab.data.toList):=ab (by
  by_cases q:S.lab.size=0
  ·rw[af q];exact(kJ (by rw[fh];exact q)).symm
  ·rw[ac q];exact k9 _)
 have c0:=bE an fm;have c1:=bE an dM;rw[aL] at c0 c1;clear hE hb hW bz an aL hC dc dx eZ eH fm dM;rw[hk] at c1 cK;have hq:dN [jo S.tg,S.pa.wrong,S.va.wrongX]=0:=by
  unfold SV.kndE at cw;rw[hk] at cw;exact cw
 have li:=(rz (cI hq).1).1;have iC:=(cI (cI (cI hq).2).2).1;have ws:=(fG iC).2;have CN:=wR (fG iC).1;have CR:=(fG li).2;have hn_tg:=wR (fG li).1;clear hq li iC;have e3:xy.size=3:=rfl;have e4:xz.size=3:=rfl;have HI:Hid (ar (cj S)=S.lab.data.toList++(([32]++(ar (S.tg.atl 0)++(([32,63,32]++(pt.data.toList++[32,61,32]))++ar (S.va.atl 0))))++ar (dG S))):=ab (by
  unfold cj iM;rw[gj,gj,aa iH,hk];show _++(ar (bl::(S.tg.exI++(bl::sg 63::bl::sU S::bl::sg 61::bl::S.va.exI)))++_)=_;rw[dA,gj,dA,dA,dA,dA,dA,dA,dA,ux,ux,hp];show _++(([32]++(ar S.tg.exI++([32]++([63]++([32]++((91::(S.pa.txt++[93]))++([32]++([61]++([32]++ar S.va.exI)))))))))++_)=_;simp)
 clear cw hk iH;have cf:Hid (Calls prog 42 #[.pointer (some ⟨z,0,none⟩),.slice (some ⟨w1.heap.size,0,none⟩) 1 1] (w1.alloc (.cells #[.string S.lab] 9)) _):=ab ((aa H1).put (aa HZ).1 (aa HZ).2 (by omega) [S.lab] (by simp) (fun t ht=>by simp only[dU,ek,fL] at ht;subst ht;omega) 16 (by show (bN [S.lab]).length≤16;unfold bN;simp only[ia,iQ,bg,List.length_nil,fh];omega))
 rw[aa bP] at cf;go_enter func20,ntmps20;go_wp2_with fail;rw[aa bi];refine(aa cf).mono ?_;rintro e w2 ⟨rfl,v2,o2,f2,h2,cN⟩;have cR:=ab (cN.keep (aa H1).wr (aa bq) (by decide) bY)
 have H2:=ab h2;clear h2 cN cf H1;clear c0 c1;have c1:=bE (aa cR) (aa cK);have e32:(ah 32).size=1:=rfl;have dW:Hid (Calls prog 42 #[.pointer (some ⟨z,0,none⟩),.slice (some ⟨w2.heap.size,0,none⟩) 1 1] (w2.alloc (.cells #[.string ⟨#[32]⟩] 9)) _):=ab ((aa H2).put (aa HZ).1 (aa HZ).2 (by omega) [ah 32] (by simp) (fun t ht=>by simp only[dU,ek,fL] at ht;subst ht;omega) 1 (by show (bN [ah 32]).length≤1;unfold bN;simp only[ia,iQ,bg,List.length_nil,fh];omega))
 go_wp2_with fail;refine(aa dW).mono ?_;rintro e w3 ⟨rfl,v3,o3,f3,h3,dp⟩;have cY:=ab (dp.keep (aa H2).wr (aa cR) (by decide) bY)
 have H3:=ab h3;clear h3 dp dW H2;clear c1;have c1:=bE (aa cY) (aa cK);have cZ:Hid (Calls prog 43 #[.pointer (some ⟨z,0,none⟩),.agg #[.int .i64 S.tg.k,.string S.tg.t,.int .i64 S.tg.n,.string S.tg.nm,.slice S.tg.xa S.tg.len S.tg.cap],.int .i64 0] w3 fun e w'=>iv B z w3 v3 o3 (ar (S.tg.atl 0)) f3 (40 * S.tg.cnt) e w'):=ab (wS S.tg W w3 B z v3 o3 f3 0 (aa HZ).1 (aa je).tg (aa H3).bel (aa HZ).2 (aa H3).wr CR ((aa H3).len2 (by omega)))
 obtain⟨m0,m1,m2,m3,m4⟩:=aa jX;have g0:=bE (aa cY) m0;have g1:=bE (aa cY) m1;have g2:=bE (aa cY) m2;have g3:=bE (aa cY) m3;have g4:=bE (aa cY) m4;clear m0 m1 m2 m3 m4;go_wp2_with fail;refine(aa cZ).mono ?_;rintro e w4 ⟨rfl,be⟩;obtain⟨v4,o4,f4,h4,cy⟩:=(aa H3).sub (aa HZ).2 be;have lK:=ab (cy.keep (aa H3).wr (aa cY) (by decide) bY)
 have H4:=ab h4;clear be h4 cy cZ H3 g0 g1 g2 g3 g4;clear c1;have iq:Hid (Calls prog 42 #[.pointer (some ⟨z,0,none⟩),.slice (some ⟨w4.heap.size,0,none⟩) 3 3] (w4.alloc (.cells #[.string ⟨#[32,63,32]⟩,.string pt,.string ⟨#[32,61,32]⟩] 9)) _):=ab ((aa H4).put (aa HZ).1 (aa HZ).2 (by omega) [xy,pt,xz] (by simp) (fun t ht=>by simp only[dU,ek,fL] at ht;rcases ht with rfl | rfl | rfl <;> omega) 65544 (by show (bN [xy,pt,xz]).length≤65544;unfold bN;simp only[ia,iQ,bg,List.length_nil,fh];omega))
 go_wp2_with fail;refine(aa iq).mono ?_;rintro e w5 ⟨rfl,v5,o5,f5,h5,go⟩;have jI:=ab (go.keep (aa H4).wr (aa lK) (by decide) bY)
 have H5:=ab h5;clear h5 go iq H4;have pd:Hid (Calls prog 43 #[.pointer (some ⟨z,0,none⟩),.agg #[.int .i64 S.va.k,.string S.va.t,.int .i64 S.va.n,.string S.va.nm,.slice S.va.xa S.va.len S.va.cap],.int .i64 0] w5 fun e w'=>iv B z w5 v5 o5 (ar (S.va.atl 0)) f5 (40 * S.va.cnt) e w'):=ab (wS S.va W w5 B z v5 o5 f5 0 (aa HZ).1 (aa je).va (aa H5).bel (aa HZ).2 (aa H5).wr ws ((aa H5).len2 (by omega)))
 obtain⟨m0,m1,m2,m3,m4⟩:=aa gU;have g0:=bE (aa jI) m0;have g1:=bE (aa jI) m1;have g2:=bE (aa jI) m2;have g3:=bE (aa jI) m3;have g4:=bE (aa jI) m4;clear m0 m1 m2 m3 m4;go_wp2_with fail;refine(aa pd).mono ?_;rintro e w6 ⟨rfl,be⟩;obtain⟨v6,o6,f6,h6,l4⟩:=(aa H5).sub (aa HZ).2 be;have lf:=ab (l4.keep (aa H5).wr (aa jI) (by decide) bY)
 have H6:=ab h6;clear be h6 l4 pd H5 g0 g1 g2 g3 g4;have pb:=ab (vR S (aa HZ).1 (aa H6).bel (aa HZ).2 (aa H6).wr oL oK jY ((aa H6).len2 (by omega)))
 rw[aa gz] at pb;go_wp2_with (first
  | (refine gG rfl 30 _ rfl w.heap.size rfl 30 C (0,0) _ (aa lf) underlying30 rfl (pA.trans (by rw[aa dL])) ?_)
  | fail)
 refine(aa pb).mono ?_;rintro e w7 ⟨rfl,be⟩;obtain⟨v7,o7,f7,h7, -⟩:=(aa H6).sub (aa HZ).2 be;have HF:=ab (h7.done (t:=ar (cj S)) (c:=500000) (by rw[aa HI];rw[fJ,fJ,kE,kE,fJ];show []++S.lab.data.toList++[32]++ar (S.tg.atl 0)++([32,63,32]++(pt.data.toList++[32,61,32]))++ar (S.va.atl 0)++ar (dG S)=_;simp) (by omega))
 clear be h7 pb H6;go_wp2_with fail;go_end0;exact⟨rfl,aa HF⟩
theorem stm_6 (S:SV) (pt:ByteArray) {W w:World} {B z:Nat} {v:Value} {o:List UInt8} {f:Bool} (hk:S.k=6) (hE:EnvW W) (hb:Below W.heap.size W w) (hz:W.heap.size≤z) (hW:WrI B z w v o f) (dx:S.In W) (eZ:S.wrong=0) (hp:pt.data.toList=91::(S.pa.txt++[93])) (mK:pt.size≤65538) (ho:max o.length 140000+500000≤9000000):
  Calls prog 20 #[.pointer (some ⟨z,0,none⟩),S.v,.string pt] w fun e w'=>iv B z w v o (ar (cj S)) f 500000 e w':=by
 have hzl:z < w.heap.size:=(bC.1 hW.blk).1;have bY:w.heap.size≠z:=by omega
 obtain⟨eH,cw⟩:=qi eZ;have kL:=il eH.lab;have oL:=il eH.al;have oK:=il eH.ye;have jY:=il eH.no;obtain⟨C,hC⟩:∃C,C=S.cells:=⟨_,rfl⟩;have dc:S.v=.agg C:=by rw[hC];rfl
 have gz:=ab dc;have dL:Hid (C.size=24):=ab (by rw[hC];rfl)
 have jX:Hid (C[2]? =some (.int .i64 S.tg.k)∧C[3]? =some (.string S.tg.t)∧C[4]? =some (.int .i64 S.tg.n)∧C[5]? =some (.string S.tg.nm)∧C[6]? =some (.slice S.tg.xa S.tg.len S.tg.cap)):=ab (by rw[hC];exact⟨rfl,rfl,rfl,rfl,rfl⟩)
 have gU:Hid (C[7]? =some (.int .i64 S.va.k)∧C[8]? =some (.string S.va.t)∧C[9]? =some (.int .i64 S.va.n)∧C[10]? =some (.string S.va.nm)∧C[11]? =some (.slice S.va.xa S.va.len S.va.cap)):=ab (by rw[hC];exact⟨rfl,rfl,rfl,rfl,rfl⟩)
 have pO:Hid (C[17]? =some (.string S.nm)∧C[18]? =some (.string S.en)∧C[19]? =some S.ps.v∧C[20]? =some S.ls.v):=ab (by rw[hC];exact⟨rfl,rfl,rfl,rfl⟩)
 have fm:C[0]? =some (.string S.lab):=by rw[hC];rfl
 have dM:C[1]? =some (.int .i64 S.k):=by rw[hC];rfl
 have cK:=ab dM;rw[dc];obtain⟨w1,aL⟩:∃w1,w1=w.alloc (.cells C 30):=⟨_,rfl⟩;have bz:Below w.heap.size w w1:=by rw[aL];exact ba _
 have an:w1.heap[w.heap.size]? =some (.cells C 30 (0,0)):=by rw[aL];exact aw rfl
 have H1:=ab ((Wn.start hb hW).below bz);have bq:=ab an;have bP:Hid (w1.heap.size=w.heap.size+1):=ab (by rw[aL];simp)
 have bi:Hid (w.alloc (.cells C 30)=w1):=ab (aL.symm);have HZ:=ab (And.intro hE hz);have je:=ab dx;have iH:Hid (ar (if S.lab.size=0 then [] else [wd S.lab])=S.lab.data.toList):=ab (by
  by_cases q:S.lab.size=0
  ·rw[af q];exact(kJ (by rw[fh];exact q)).symm
  ·rw[ac q];exact k9 _)
 have c0:=bE an fm;have c1:=bE an dM;rw[aL] at c0 c1;clear hE hb hW bz an aL hC dc dx eZ eH fm dM;rw[hk] at c1 cK;have hq:dN [cV [S.nm],S.pa.wrong]=0:=by
  unfold SV.kndE at cw;rw[hk] at cw;exact cw
 have dq:=(ms (mU (cI hq).1 S.nm (by simp))).2.1
 clear hq;have e3:tDfB.size=4:=rfl;have HI:Hid (ar (cj S)=S.lab.data.toList++(([32]++(S.nm.data.toList++([32,58,61,32]++pt.data.toList)))++ar (dG S))):=ab (by
  unfold cj iM;rw[gj,gj,aa iH,hk];show _++(ar (bl::wd S.nm::bl::df::bl::[sU S])++_)=_;rw[dA,dA,dA,dA,dA,dA,hp];show _++(([32]++(S.nm.data.toList++([32]++([58,61]++([32]++((91::(S.pa.txt++[93]))++[]))))))++_)=_;simp)
 clear cw hk iH;have cf:Hid (Calls prog 42 #[.pointer (some ⟨z,0,none⟩),.slice (some ⟨w1.heap.size,0,none⟩) 1 1] (w1.alloc (.cells #[.string S.lab] 9)) _):=ab ((aa H1).put (aa HZ).1 (aa HZ).2 (by omega) [S.lab] (by simp) (fun t ht=>by simp only[dU,ek,fL] at ht;subst ht;omega) 16 (by show (bN [S.lab]).length≤16;unfold bN;simp only[ia,iQ,bg,List.length_nil,fh];omega))
 rw[aa bP] at cf;go_enter func20,ntmps20;go_wp2_with fail;rw[aa bi];refine(aa cf).mono ?_;rintro e w2 ⟨rfl,v2,o2,f2,h2,cN⟩;have cR:=ab (cN.keep (aa H1).wr (aa bq) (by decide) bY)
 have H2:=ab h2;clear h2 cN cf H1;clear c0 c1;have c1:=bE (aa cR) (aa cK);have e32:(ah 32).size=1:=rfl;have dW:Hid (Calls prog 42 #[.pointer (some ⟨z,0,none⟩),.slice (some ⟨w2.heap.size,0,none⟩) 1 1] (w2.alloc (.cells #[.string ⟨#[32]⟩] 9)) _):=ab ((aa H2).put (aa HZ).1 (aa HZ).2 (by omega) [ah 32] (by simp) (fun t ht=>by simp only[dU,ek,fL] at ht;subst ht;omega) 1 (by show (bN [ah 32]).length≤1;unfold bN;simp only[ia,iQ,bg,List.length_nil,fh];omega))
 go_wp2_with fail;refine(aa dW).mono ?_;rintro e w3 ⟨rfl,v3,o3,f3,h3,dp⟩;have cY:=ab (dp.keep (aa H2).wr (aa cR) (by decide) bY)
 have H3:=ab h3;clear h3 dp dW H2;clear c1;have c1:=bE (aa cY) (aa cK);have ig:Hid (Calls prog 42 #[.pointer (some ⟨z,0,none⟩),.slice (some ⟨w3.heap.size,0,none⟩) 3 3] (w3.alloc (.cells #[.string S.nm,.string ⟨#[32,58,61,32]⟩,.string pt] 9)) _):=ab ((aa H3).put (aa HZ).1 (aa HZ).2 (by omega) [S.nm,tDfB,pt] (by simp) (fun t ht=>by simp only[dU,ek,fL] at ht;rcases ht with rfl | rfl | rfl <;> omega) 65558 (by show (bN [S.nm,tDfB,pt]).length≤65558;unfold bN;simp only[ia,iQ,bg,List.length_nil,fh];omega))
 have c17:=bE (aa cY) (aa pO).1;go_wp2_with fail;refine(aa ig).mono ?_;rintro e w4 ⟨rfl,v4,o4,f4,h4,cy⟩;have lK:=ab (cy.keep (aa H3).wr (aa cY) (by decide) bY)
 have H4:=ab h4;clear h4 cy ig H3;clear c17;clear c1;have gB:=ab (vR S (aa HZ).1 (aa H4).bel (aa HZ).2 (aa H4).wr oL oK jY ((aa H4).len2 (by omega)))
 rw[aa gz] at gB;go_wp2_with (first
  | (refine gG rfl 30 _ rfl w.heap.size rfl 30 C (0,0) _ (aa lK) underlying30 rfl (pA.trans (by rw[aa dL])) ?_)
  | fail)
 refine(aa gB).mono ?_;rintro e w5 ⟨rfl,be⟩;obtain⟨v5,o5,f5,h5, -⟩:=(aa H4).sub (aa HZ).2 be;have HF:=ab (h5.done (t:=ar (cj S)) (c:=500000) (by rw[aa HI];rw[fJ,fJ,kE,kE,fJ];show []++S.lab.data.toList++[32]++(S.nm.data.toList++([32,58,61,32]++pt.data.toList))++ar (dG S)=_;simp) (by omega))
 clear be h5 gB H4;go_wp2_with fail;go_end0;exact⟨rfl,aa HF⟩
end Go.Proofs.YtlmnjbipfacniaaGreatDoor
