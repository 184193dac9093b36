/- The writer of lines: definitions; every statement. A stateme -/
import Derived.Test.YtlmnjbipfacniaaGreatDoorWrLM
import Derived.Orders
import Derived.Great.BuildSlice
import Derived.Laws.Rows
import Derived.WalkKit
set_option maxRecDepth 100000
set_option maxHeartbeats 8000000
namespace Go.Proofs.YtlmnjbipfacniaaGreatDoor
open Go.Proofs.Tryz
open Go.RowKit
def Cz:ByteArray:=⟨#[68,69,70,73,78,69,32]⟩
theorem zG (l:List ByteArray):(sW l).data.toList=ar (fD l):=by unfold sW;simp
theorem stm_7 (S:SV) (pt:ByteArray) {W w:World} {B z:Nat} {v:Value} {o:List UInt8} {f:Bool} (hk:S.k=7) (hE:EnvW W) (hb:Below W.heap.size W w) (hz:W.heap.size≤z) (hW:WrI B z w v o f) (dx:S.In W) (eZ:S.wrong=0) (ho:max o.length 140000+500000≤9000000):
  Calls prog 20 #[.pointer (some ⟨z,0,none⟩),S.v,.string pt] w fun e w'=>iv B z w v o (ar (cj S)) f 500000 e w':=by
 have hzl:z < w.heap.size:=(bC.1 hW.blk).1;have bY:w.heap.size≠z:=by omega
 obtain⟨eH,cw⟩:=qi eZ;have kL:=il eH.lab;have oL:=il eH.al;have oK:=il eH.ye;have jY:=il eH.no;obtain⟨C,hC⟩:∃C,C=S.cells:=⟨_,rfl⟩;have dc:S.v=.agg C:=by rw[hC];rfl
 have gz:=ab dc;have dL:Hid (C.size=24):=ab (by rw[hC];rfl)
 have jX:Hid (C[2]? =some (.int .i64 S.tg.k)∧C[3]? =some (.string S.tg.t)∧C[4]? =some (.int .i64 S.tg.n)∧C[5]? =some (.string S.tg.nm)∧C[6]? =some (.slice S.tg.xa S.tg.len S.tg.cap)):=ab (by rw[hC];exact⟨rfl,rfl,rfl,rfl,rfl⟩)
 have gU:Hid (C[7]? =some (.int .i64 S.va.k)∧C[8]? =some (.string S.va.t)∧C[9]? =some (.int .i64 S.va.n)∧C[10]? =some (.string S.va.nm)∧C[11]? =some (.slice S.va.xa S.va.len S.va.cap)):=ab (by rw[hC];exact⟨rfl,rfl,rfl,rfl,rfl⟩)
 have pO:Hid (C[17]? =some (.string S.nm)∧C[18]? =some (.string S.en)∧C[19]? =some S.ps.v∧C[20]? =some S.ls.v):=ab (by rw[hC];exact⟨rfl,rfl,rfl,rfl⟩)
 have fm:C[0]? =some (.string S.lab):=by rw[hC];rfl
 have dM:C[1]? =some (.int .i64 S.k):=by rw[hC];rfl
 have cK:=ab dM;rw[dc];obtain⟨w1,aL⟩:∃w1,w1=w.alloc (.cells C 30):=⟨_,rfl⟩;have bz:Below w.heap.size w w1:=by rw[aL];exact ba _
 have an:w1.heap[w.heap.size]? =some (.cells C 30 (0,0)):=by rw[aL];exact aw rfl
 have H1:=ab ((Wn.start hb hW).below bz);have bq:=ab an;have bP:Hid (w1.heap.size=w.heap.size+1):=ab (by rw[aL];simp)
 have bi:Hid (w.alloc (.cells C 30)=w1):=ab (aL.symm);have HZ:=ab (And.intro hE hz);have je:=ab dx;have iH:Hid (ar (if S.lab.size=0 then [] else [wd S.lab])=S.lab.data.toList):=ab (by
  by_cases q:S.lab.size=0
  ·rw[af q];exact(kJ (by rw[fh];exact q)).symm
  ·rw[ac q];exact k9 _)
 have c0:=bE an fm;have c1:=bE an dM;rw[aL] at c0 c1;clear hE hb hW bz an aL hC dc dx eZ eH fm dM;rw[hk] at c1 cK;have hq:dN [cV [S.nm,S.en],cV S.ps.l,cV S.ls.l]=0∧¬(8 < S.ps.l.length∨8 < S.ls.l.length):=by
  unfold SV.kndE at cw;rw[hk] at cw;have cw:S.dfE=0:=cw;unfold SV.dfE at cw
  by_cases q:dN [cV [S.nm,S.en],cV S.ps.l,cV S.ls.l]=0∧(8 < S.ps.l.length∨8 < S.ls.l.length)
  ·rw[af q] at cw;omega
  ·rw[ac q] at cw;exact⟨cw,fun z=>q ⟨cw,z⟩⟩
 have l8:=(cI hq.1).1;have dq:=(ms (mU l8 S.nm (by simp))).2.1
 have hen:=(ms (mU l8 S.en (by simp))).2.1
 have kq:=mU (cI (cI hq.1).2).1;have hn3:=mU (cI (cI (cI hq.1).2).2).1;have mK:∀x ∈ S.ps.l,x.size≤16:=fun x hx=>(ms (kq x hx)).2.1
 have sc:∀x ∈ S.ls.l,x.size≤16:=fun x hx=>(ms (hn3 x hx)).2.1
 have h8:=hq.2;have hjp:(sW S.ps.l).size≤136:=by have:=zT S.ps.l mK;rw[←fh,zG];omega
 have hjl:(sW S.ls.l).size≤136:=by have:=zT S.ls.l sc;rw[←fh,zG];omega
 have HJP:=ab (fun (W1:World) (h:Below W.heap.size W W1)=>show Calls prog 44 #[.slice S.ps.xa S.ps.l.length S.ps.cap,.string ⟨#[44]⟩] W1 fun e w'=>e=.returned (.string (sW S.ps.l))∧Below W1.heap.size W1 w' from Ew S.ps W1 ((aa je).ps.later h) mK (by omega))
 have HJL:=ab (fun (W1:World) (h:Below W.heap.size W W1)=>show Calls prog 44 #[.slice S.ls.xa S.ls.l.length S.ls.cap,.string ⟨#[44]⟩] W1 fun e w'=>e=.returned (.string (sW S.ls.l))∧Below W1.heap.size W1 w' from Ew S.ls W1 ((aa je).ls.later h) sc (by omega))
 have e7:Cz.size=7:=rfl;have e40:(ah 40).size=1:=rfl;have e41:(ah 41).size=1:=rfl;have e32:(ah 32).size=1:=rfl;clear hq l8 kq hn3 mK sc;unfold NL.v at pO;have HI:Hid (ar (cj S)=S.lab.data.toList++(([32]++([68,69,70,73,78,69,32]++(S.nm.data.toList++([40]++(ar (fD S.ps.l)++([41]++(ar (fD S.ls.l)++([32]++S.en.data.toList))))))))++ar (dG S))):=ab (by
  unfold cj iM;rw[gj,gj,aa iH,hk];show _++(ar (bl::wd mZ::bl::wd S.nm::sg 40::(fD S.ps.l++(sg 41::(fD S.ls.l++(bl::[wd S.en])))))++_)=_;rw[dA,dA,dA,dA,dA,gj,dA,gj,dA,dA];show _++(([32]++([68,69,70,73,78,69]++([32]++(S.nm.data.toList++([40]++(ar (fD S.ps.l)++([41]++(ar (fD S.ls.l)++([32]++(S.en.data.toList++[]))))))))))++_)=_;simp)
 have HJ1:=ab (zG S.ps.l);have HJ2:=ab (zG S.ls.l);generalize sW S.ps.l=jp at *;generalize sW S.ls.l=jl at *;clear cw hk iH;have cf:Hid (Calls prog 42 #[.pointer (some ⟨z,0,none⟩),.slice (some ⟨w1.heap.size,0,none⟩) 1 1] (w1.alloc (.cells #[.string S.lab] 9)) _):=ab ((aa H1).put (aa HZ).1 (aa HZ).2 (by omega) [S.lab] (by simp) (fun t ht=>by simp only[dU,ek,fL] at ht;subst ht;omega) 16 (by show (bN [S.lab]).length≤16;unfold bN;simp only[ia,iQ,bg,List.length_nil,fh];omega))
 rw[aa bP] at cf;go_enter func20,ntmps20;go_wp2_with fail;rw[aa bi];refine(aa cf).mono ?_;rintro e w2 ⟨rfl,v2,o2,f2,h2,cN⟩;have cR:=ab (cN.keep (aa H1).wr (aa bq) (by decide) bY)
 have H2:=ab h2;clear h2 cN cf H1;clear c0 c1;have c1:=bE (aa cR) (aa cK);have dW:Hid (Calls prog 42 #[.pointer (some ⟨z,0,none⟩),.slice (some ⟨w2.heap.size,0,none⟩) 1 1] (w2.alloc (.cells #[.string ⟨#[32]⟩] 9)) _):=ab ((aa H2).put (aa HZ).1 (aa HZ).2 (by omega) [ah 32] (by simp) (fun t ht=>by simp only[dU,ek,fL] at ht;subst ht;omega) 1 (by show (bN [ah 32]).length≤1;unfold bN;simp only[ia,iQ,bg,List.length_nil,fh];omega))
 go_wp2_with fail;refine(aa dW).mono ?_;rintro e w3 ⟨rfl,v3,o3,f3,h3,dp⟩;have cY:=ab (dp.keep (aa H2).wr (aa cR) (by decide) bY)
 have H3:=ab h3;clear h3 dp dW H2;clear c1;have c1:=bE (aa cY) (aa cK);go_wp2_with fail;clear c1;obtain⟨S0,aO⟩:∃S0:World→Prop,S0=fun W1=>W1.cell? ⟨w.heap.size,17,none⟩=some (.string S.nm)∧W1.cell? ⟨w.heap.size,18,none⟩=some (.string S.en)∧W1.cell? ⟨w.heap.size,19,none⟩=some (.slice S.ps.xa S.ps.l.length S.ps.cap)∧W1.cell? ⟨w.heap.size,20,none⟩=some (.slice S.ls.xa S.ls.l.length S.ls.cap):=⟨_,rfl⟩
 have ao:=ab aO;have aU:Hid (∀W1:World,W1.heap[w.heap.size]? =some (.cells C 30 (0,0))→S0 W1):=ab (fun W1 h=>by rw[aO];exact⟨bE h (aa pO).1,bE h (aa pO).2.1,bE h (aa pO).2.2.1,bE h (aa pO).2.2.2⟩)
 have vu:=(aa H3).below (aW _ _).drew;have jI:=ab (am (aa cY) (aW _ _).drew);have bw:S0 w3.drew:=aa aU _ (aa jI);have ud:=ab vu;clear aO vu;refine gZ 12 S0 ?_;intro F;refine aK F 0 ao bw ?_
 (try simp only[aH,aG])
 (try go_frame)
 refine aK F 1 ao bw ?_
 (try simp only[aH,aP,aG])
 (try go_frame)
 refine aK F 2 ao bw ?_
 (try simp only[aH,aP,aG])
 (try go_frame)
 refine aK F 3 ao bw ?_
 (try simp only[aH,aP,aG])
 (try go_frame)
 refine aK F 4 ao bw ?_
 (try simp only[aH,aP,aG])
 (try go_frame)
 refine aK F 6 ao bw ?_
 (try simp only[aH,aP,aG])
 (try go_frame)
 refine aK F 7 ao bw ?_
 (try simp only[aH,aP,aG])
 (try go_frame)
 refine aK F 9 ao bw ?_
 (try simp only[aH,aP,aG])
 (try go_frame)
 refine aK F 10 ao bw ?_
 (try simp only[aH,aP,aG])
 (try go_frame)
 refine cg 5 (fun K2 ew=> ?_)
 go_simp;refine(aa HJP _ (aa ud).bel).mono ?_;rintro e w5 ⟨rfl,hb5⟩;refine ew _ _ (aa aU _ (am (aa jI) hb5)) ?_
 (try simp only[aH,aP,aG])
 (try go_frame)
 refine cg 8 (fun K3 cO=> ?_)
 go_simp;refine(aa HJL _ ((aa ud).below hb5).bel).mono ?_;rintro e w6 ⟨rfl,hb6⟩;have gC:=ab (ap hb5 hb6);have H6:=ab ((aa ud).below (aa gC));refine cO _ _ (aa aU _ (am (aa jI) (aa gC))) ?_
 (try simp only[aH,aP,aG])
 (try go_frame)
 clear cO K3 hb5 hb6 ud
 -- both are joined:the row of texts,then put
 have bw:S0 w6:=aa aU _ (am (aa jI) (aa gC));refine cg 11 (fun K3 cO=> ?_)
 go_simp;refine cO _ _ (aa aU _ (am (am (aa jI) (aa gC)) (ba _))) ?_
 (try simp only[aH,aP,aG])
 (try go_frame)
 have HP6:Hid (Calls prog 42 #[.pointer (some ⟨z,0,none⟩),.slice (some ⟨w6.heap.size,0,none⟩) 8 8] (w6.alloc (.cells #[.string ⟨#[68,69,70,73,78,69,32]⟩,.string S.nm,.string ⟨#[40]⟩,.string jp,.string ⟨#[41]⟩,.string jl,.string ⟨#[32]⟩,.string S.en] 9)) _):=ab ((aa H6).put (aa HZ).1 (aa HZ).2 (by omega) [Cz,S.nm,ah 40,jp,ah 41,jl,ah 32,S.en] (by simp) (fun t ht=>by simp only[dU,ek,fL] at ht;rcases ht with rfl | rfl | rfl | rfl | rfl | rfl | rfl | rfl <;> omega) 400 (by show (bN [Cz,S.nm,ah 40,jp,ah 41,jl,ah 32,S.en]).length≤400;unfold bN;simp only[ia,iQ,bg,List.length_nil,fh];omega))
 refine g5 (by kernel_rfl) rfl (by kernel_rfl) (fun K4 bH=> ?_)
 go_simp;refine(aa HP6).mono ?_;rintro e w4 ⟨rfl,v4,o4,f4,h4,cy⟩;have lK:=ab (cy.keep (aa H6).wr (am (aa jI) (aa gC)) (by decide) bY)
 have H4:=ab h4;refine bH _ _ ?_
 (try simp only[aH,aP,aG])
 (try go_frame)
 clear bH K4 cO K3 ew K2 F bw ao aU h4 cy HP6 H6 gC jI;have gB:=ab (vR S (aa HZ).1 (aa H4).bel (aa HZ).2 (aa H4).wr oL oK jY ((aa H4).len2 (by omega)))
 rw[aa gz] at gB;go_wp2_with (first
  | (refine gG rfl 30 _ rfl w.heap.size rfl 30 C (0,0) _ (aa lK) underlying30 rfl (pA.trans (by rw[aa dL])) ?_)
  | fail)
 refine(aa gB).mono ?_;rintro e w5 ⟨rfl,be⟩;obtain⟨v5,o5,f5,h5, -⟩:=(aa H4).sub (aa HZ).2 be;have HF:=ab (h5.done (t:=ar (cj S)) (c:=500000) (by rw[aa HI];rw[fJ,fJ,kE,kE,kE,kE,kE,kE,kE,fJ];show []++S.lab.data.toList++[32]++([68,69,70,73,78,69,32]++(S.nm.data.toList++([40]++(jp.data.toList++([41]++(jl.data.toList++([32]++S.en.data.toList)))))))++ar (dG S)=_;rw[aa HJ1,aa HJ2];simp) (by omega))
 clear be h5 gB H4;go_wp2_with fail;go_end0;exact⟨rfl,aa HF⟩
theorem zD (S:SV) (pt:ByteArray) {W w:World} {B z:Nat} {v:Value} {o:List UInt8} {f:Bool} (hE:EnvW W) (hb:Below W.heap.size W w) (hz:W.heap.size≤z) (hW:WrI B z w v o f) (dx:S.In W) (eZ:S.wrong=0) (hp:S.k=4∨S.k=5∨S.k=6→pt.data.toList=91::(S.pa.txt++[93])∧pt.size≤65538) (ho:max o.length 140000+500000≤9000000):
  Calls prog 20 #[.pointer (some ⟨z,0,none⟩),S.v,.string pt] w fun e w'=>iv B z w v o (ar (cj S)) f 500000 e w':=by
 obtain⟨-,hk⟩:=qi eZ;have hc:S.k=1∨S.k=2∨S.k=3∨S.k=4∨S.k=5∨S.k=6∨S.k=7:=by
  unfold SV.kndE at hk
  by_cases h1:S.k=1
  ·exact .inl h1
  ·by_cases h2:S.k=2
   ·exact .inr (.inl h2)
   ·by_cases h3:S.k=3
    ·exact .inr (.inr (.inl h3))
    ·by_cases h4:S.k=4
     ·exact .inr (.inr (.inr (.inl h4)))
     ·by_cases h5:S.k=5
      ·exact .inr (.inr (.inr (.inr (.inl h5))))
      ·by_cases h6:S.k=6
       ·exact .inr (.inr (.inr (.inr (.inr (.inl h6)))))
       ·by_cases h7:S.k=7
        ·exact .inr (.inr (.inr (.inr (.inr (.inr h7)))))
        ·rw[ac h1,ac h2,ac h4,ac h3,ac h5,ac h6,ac h7] at hk
         omega
 rcases hc with h | h | h | h | h | h | h
 ·exact stm_1 S pt h hE hb hz hW dx eZ ho
 ·exact stm_2 S pt h hE hb hz hW dx eZ ho
 ·exact stm_3 S pt h hE hb hz hW dx eZ ho
 ·exact stm_4 S pt h hE hb hz hW dx eZ (hp (.inl h)).1 (hp (.inl h)).2 ho
 ·exact stm_5 S pt h hE hb hz hW dx eZ (hp (.inr (.inl h))).1 (hp (.inr (.inl h))).2 ho
 ·exact stm_6 S pt h hE hb hz hW dx eZ (hp (.inr (.inr h))).1 (hp (.inr (.inr h))).2 ho
 ·exact stm_7 S pt h hE hb hz hW dx eZ ho
open Go
theorem Fz:∀{l:List Bool} {j:Nat},l[j]? =some false→(l.set j true).count false+1=l.count false
 | [],j,h=>by simp at h
 | b::l,0,h=>by
  have:b=false:=by simpa using h
  subst this;simp
 | b::l,j+1,h=>by
  have ih:=Fz (l:=l) (j:=j) (by simpa using h)
  rw[List.set_cons_succ,List.count_cons,List.count_cons];omega
theorem zo {l:Array Bool} {j:Nat} (h:l.getD j true=false):l.toList[j]? =some false:=by
 rw[th];rw[Array.getD_eq_getD_getElem?] at h
 cases hj:l[j]? with
 | none=>rw[hj] at h;cases h
 | some b=>rw[hj] at h;simpa using h
section
variable {P:Program} {md:Region.Mode} {ops:Array Oper} {Q:Exit→Act→World→Prop} {I:Array Bool→Act→World→Prop}
theorem Dy (step:∀listed a w i,I listed a w→i ∈ Region.ready md ops listed→wpOp P ops Q i (fun a' w'=>I (listed.setIfInBounds i true) a' w') a w) (done:∀listed a w,I listed a w→Region.ready md ops listed=[]→Q .normal a w):
  ∀n listed a w,listed.toList.count false≤n→I listed a w→wpAny P md ops Q n listed a w
 | 0,listed,a,w,hn,hI=>by
  have h0:Region.ready md ops listed=[]:=by
   rcases List.eq_nil_or_concat (Region.ready md ops listed) with h | ⟨l,x,h⟩
   ·exact h
   ·have hx:x ∈ Region.ready md ops listed:=by rw[h];simp
    have hm:=rO (zo (nZ.1 hx).1);have hp:=List.count_pos_iff.2 hm;omega
  exact⟨h0,done _ _ _ hI h0⟩
 | n+1,listed,a,w,hn,hI=>⟨fun h=>done _ _ _ hI h,fun i hi=>wpOp_mono (fun a' w' h'=>Dy step done n _ a' w' (by
   have:=Fz (zo (nZ.1 hi).1);rw[Array.toList_setIfInBounds];omega) h') (step listed a w i hI hi)⟩
theorem IZ {id:Nat} {a:Act} {w:World} (hm:P.follows .mixedOrders=true) (start:I (Array.replicate ops.size false) a w.drew)
  (step:∀listed a w i,I listed a w→i ∈ Region.ready .any ops listed→wpOp P ops Q i (fun a' w'=>I (listed.setIfInBounds i true) a' w') a w) (done:∀listed a w,I listed a w→Region.ready .any ops listed=[]→Q .normal a w):(Code.region id ops true).wp P Q a w:=
 wp_region_any hm (Dy step done _ _ _ _ (by simp) start)
theorem Ms {i:Nat} {o:Oper} {a:Act} {w:World} {K:Act→World→Prop} (hi:ops[i]? =some o) (hg:o.guard=none) (h:o.wp P a w K Q):wpOp P ops Q i K a w:=by
 unfold wpOp;rw[hi];have hw:Region.wanted o (yielded ops a.tmps)=true:=by simp[Region.wanted,hg]
 show if Region.wanted o (yielded ops a.tmps)=true then _ else _;rw[af hw];exact .inl h
theorem uG {o:Oper} {a:Act} {w:World} {K:Act→World→Prop} {x:Operand} (ho:o.op=.move x) (h:K (a.put o.dst (a.eval x)) w):o.wp P a w K Q:=by
 unfold Oper.wp execOp;simp only[ho,Sem.run_pure];exact h
theorem uH {o:Oper} {a:Act} {w:World} {K:Act→World→Prop} {x:Operand} (ho:o.op=.assign x) (h:K (a.put o.dst (a.eval x)) w):o.wp P a w K Q:=by
 unfold Oper.wp execOp;simp only[ho,Sem.run_pure];exact h
theorem xo {o:Oper} {a:Act} {w:World} {K:Act→World→Prop} {f:FuncId} {fn:Func} {args:Array Operand} {ts:Array TypeId} (ho:o.op=.call {callee:=.value (.func f),args:=args,argTypes:=ts}) (hf:P.funcs[f]? =some fn) (hname:(fn.name== "runtime.NumGoroutine")=false) (hb:fn.body.isNone=false)
  (vs:Array Value) (hv:args.map a.eval=vs) (h:Calls P f vs w fun e w'=>∃v,e=.returned v∧K (a.put o.dst v) w'):o.wp P a w K Q:=by
 obtain⟨dst,op,ty,pos,after,guard⟩:=o;subst ho;have hr:(callFunc f (#[]++args.map a.eval++ #[])).run P w=.ok (.enter f vs) w:=by
  have h1:¬fn.name= "runtime.NumGoroutine" :=by simpa using hname
  have h2:¬fn.body=none:=fun q=>by rw[q] at hb;cases hb
  simp[callFunc,hf,h1,h2,hv]
 show Oper.upon P _ a K Q ((callFunc f (#[]++args.map a.eval++ #[])).run P w);rw[hr,Oper.upon_enter];refine h.mono ?_;rintro e w' ⟨v,rfl,hk⟩;exact hk
end
def fl (a:Act):List Nat→(Nat→Value)→Act
 | [],_=>a
 | d::D,x=>fl (a.put (some d) (x d)) D x
def bU (x:Nat→Value) (d:Nat) (v:Value):Nat→Value:=fun e=>if e=d then v else x e
theorem cA (x:Nat→Value) (d:Nat) (v:Value):bU x d v d=v:=af rfl
theorem j8 {x:Nat→Value} {d e:Nat} {v:Value} (h:e≠d):bU x d v e=x e:=ac h
theorem Ln (a:Act) (d:Nat) (u v:Value):(a.put (some d) u).put (some d) v=a.put (some d) v:=by
 unfold Act.put;simp[Array.setIfInBounds_setIfInBounds]
theorem Lo {a:Act} {d e:Nat} (h:d≠e) (u v:Value):(a.put (some d) u).put (some e) v=(a.put (some e) v).put (some d) u:=by
 unfold Act.put;simp[Array.setIfInBounds_comm _ _ h]
theorem Lm (a:Act) (d:Nat):a.put (some d) (a.eval (.tmp d))=a:=by
 unfold Act.put Act.eval;rcases cX d a.tmps.size with h | h
 ·obtain⟨t,df⟩:=a
  have h':d < t.size:=h;simp[h',Array.setIfInBounds]
 ·simp[Array.setIfInBounds_eq_of_size_le h]
theorem Gv:∀(D:List Nat) (a:Act) (x:Nat→Value) (d:Nat) (v:Value),d ∉ D→(fl a D x).put (some d) v=fl (a.put (some d) v) D x
 | [],_,_,_,_,_=>rfl
 | e::D,a,x,d,v,h=>by
  rw[fl,fl,Gv D _ x d v (fun q=>h (lY _ q)),Lo (fun q=>h (by rw[q];exact uU ..))]
theorem EC:∀(D:List Nat) (a:Act) {x y:Nat→Value},(∀d ∈ D,x d=y d)→fl a D x=fl a D y
 | [],_,_,_,_=>rfl
 | e::D,a,x,y,h=>by rw[fl,fl,h e (uU ..),EC D _ fun d hd=>h d (lY _ hd)]
theorem lA:∀(D:List Nat) (a:Act) (x:Nat→Value) (d:Nat) (v:Value),d ∈ D→D.Nodup→(fl a D x).put (some d) v=fl a D (bU x d v)
 | e::D,a,x,d,v,hd,hn=>by
  obtain⟨h1,h2⟩:=List.nodup_cons.1 hn;rw[fl,fl]
  by_cases q:d=e
  ·subst q
   rw[Gv D _ x d v h1,Ln,cA];exact EC D _ fun e he=>(j8 (fun q=>h1 (by rw[←q];exact he))).symm
  ·rw[lA D _ x d v ((dU.1 hd).resolve_left q) h2,j8 (fun z=>q z.symm)]
theorem sM:∀(D:List Nat) (a:Act),fl a D (fun d=>a.eval (.tmp d))=a
 | [],_=>rfl
 | e::D,a=>by rw[fl,Lm];exact sM D a
theorem Hs {a:Act} {d:Nat} (h:d < a.tmps.size) (v:Value):(a.put (some d) v).eval (.tmp d)=v:=by
 unfold Act.put Act.eval;simp[h]
theorem Hm {a:Act} {d e:Nat} (h:e≠d) (v:Value):(a.put (some d) v).eval (.tmp e)=a.eval (.tmp e):=by
 unfold Act.put Act.eval;simp[Ne.symm h]
theorem Ll (a:Act) (d:Nat) (v:Value):(a.put (some d) v).tmps.size=a.tmps.size:=by
 unfold Act.put;simp
theorem kT:∀(D:List Nat) (a:Act) (x:Nat→Value) {t:Nat},t ∉ D→(fl a D x).eval (.tmp t)=a.eval (.tmp t)
 | [],_,_,_,_=>rfl
 | e::D,a,x,t,h=>by
  rw[fl,kT D _ x (fun q=>h (lY _ q)),Hm (fun q=>h (by rw[q];exact uU ..))]
theorem jQ:∀(D:List Nat) (a:Act) (x:Nat→Value) {d:Nat},d ∈ D→D.Nodup→d < a.tmps.size→(fl a D x).eval (.tmp d)=x d
 | e::D,a,x,d,hd,hn,hs=>by
  obtain⟨h1,h2⟩:=List.nodup_cons.1 hn;rw[fl]
  by_cases q:d=e
  ·subst q
   rw[kT D _ x h1,Hs hs]
  ·exact jQ D _ x ((dU.1 hd).resolve_left q) h2 (by rw[Ll];exact hs)
def ci (ops:Array Oper) (i:Nat) (op:Op) (dst:Nat) (deps:List Nat):Prop:=∃o,ops[i]? =some o∧o.op=op∧o.dst=some dst∧o.guard=none∧(∀e ∈ o.after,e.on ∈ deps)∧∀d ∈ deps,∃e ∈ o.after,Region.binds .any e=true∧e.on=d
theorem ca {ops:Array Oper} {i:Nat} {o:Oper} {op:Op} {dst:Nat} {deps:List Nat} (h:ops[i]? =some o:=by rfl) (h1:o.op=op:=by rfl) (h2:o.dst=some dst:=by rfl) (h3:o.guard=none:=by rfl) (hb:(o.after.toList.all (fun e=>deps.contains e.on) && deps.all fun d=>o.after.toList.any fun e=>Region.binds .any e && e.on==d)=true:=by rfl):ci ops i op dst deps:=by
 rw[tj,rQ,rQ] at hb;refine⟨o,h,h1,h2,h3,fun e he=> ?_,fun d hd=> ?_⟩
 ·simpa using hb.1 e (by simpa using he)
 ·obtain⟨e,he,hq⟩:=List.any_eq_true.1 (hb.2 d hd)
  rw[tj,tp] at hq;exact⟨e,by simpa using he,hq.1,hq.2⟩
def Up (listed:Array Bool) (j:Nat):Prop:=listed.getD j false=true
theorem bT {listed:Array Bool} {i j:Nat} (hi:i < listed.size):Up (listed.setIfInBounds i true) j↔j=i∨Up listed j:=by
 unfold Up
 by_cases h:j=i
 ·subst h
  simp[hi]
 ·simp[h,Ne.symm h]
theorem cC {n j:Nat}:¬Up (Array.replicate n false) j:=by
 unfold Up;simp only[Array.getD_eq_getD_getElem?,Array.getElem?_replicate];split <;> simp
theorem cF {ops:Array Oper} {listed:Array Bool} {i:Nat} {op:Op} {dst:Nat} {deps:List Nat} (h:ci ops i op dst deps) (hi:i ∈ Region.ready .any ops listed):¬Up listed i∧∀d ∈ deps,Up listed d:=by
 obtain⟨h1,o',ho',h2⟩:=nZ.1 hi;obtain⟨o,ho, -, -, -, -,h3⟩:=h;obtain rfl:o=o':=k8 (ho.symm.trans ho');refine⟨fun q=> ?_,fun d hd=> ?_⟩
 ·have:=zo h1
  unfold Up at q;rw[th] at this;rw[Array.getD_eq_getD_getElem?,this] at q
  cases q
 ·obtain⟨e,he,hb,rfl⟩:=h3 d hd
  exact h2 e he hb
theorem cG {ops:Array Oper} {listed:Array Bool} {i:Nat} {op:Op} {dst:Nat} {deps:List Nat} (h:ci ops i op dst deps) (hn:Region.ready .any ops listed=[]) (hs:i < listed.size) (hd:∀d ∈ deps,Up listed d):Up listed i:=by
 obtain⟨o,ho, -, -, -,h2, -⟩:=h
 cases hq:listed.getD i true with
 | true=>
  unfold Up;rw[Array.getD_eq_getD_getElem?,Array.getElem?_eq_getElem hs] at hq ⊢;exact hq
 | false=>
  have:i ∈ Region.ready .any ops listed:=nZ.2 ⟨hq,o,ho,fun e he _=>hd _ (h2 e he)⟩
  rw[hn] at this
  cases this
theorem cH {P:Program} {ops:Array Oper} {Q:Exit→Act→World→Prop} {i:Nat} {op:Op} {dst:Nat} {deps:List Nat} {a:Act} {w:World} {K:Act→World→Prop} (h:ci ops i op dst deps) (hw:∀o:Oper,o.op=op→o.dst=some dst→o.wp P a w K Q):wpOp P ops Q i K a w:=by
 obtain⟨o,ho,h1,h2,h3, -, -⟩:=h;exact Ms ho h3 (hw o h1 h2)
def Shut (ops:Array Oper) (listed:Array Bool):Prop:=∀i o,ops[i]? =some o→Up listed i→∀e ∈ o.after,Region.binds .any e=true→Up listed e.on
theorem fI {ops:Array Oper} {listed:Array Bool} {i:Nat} {op:Op} {dst:Nat} {deps:List Nat} (h:ci ops i op dst deps) (hs:Shut ops listed) (hu:Up listed i):∀d ∈ deps,Up listed d:=fun d hd=>by
 obtain⟨o,ho, -, -, -, -,h3⟩:=h;obtain⟨e,he,hb,rfl⟩:=h3 d hd;exact hs i o ho hu e he hb
theorem uj {P:Program} {ops:Array Oper} {Q:Exit→Act→World→Prop} {id:Nat} {a:Act} {w:World} {I:Array Bool→Act→World→Prop} (hm:P.follows .mixedOrders=true) (start:I (Array.replicate ops.size false) a w.drew)
  (step:∀listed a w i,I listed a w→Shut ops listed→i ∈ Region.ready .any ops listed→wpOp P ops Q i (fun a' w'=>I (listed.setIfInBounds i true) a' w') a w) (done:∀listed a w,I listed a w→Region.ready .any ops listed=[]→Q .normal a w):(Code.region id ops true).wp P Q a w:=by
 refine IZ (I:=fun listed a w=>I listed a w∧Shut ops listed) hm ⟨start,fun i o _ hu=>absurd hu cC⟩ (fun listed a w i h hi=> ?_) fun listed a w h hr=>done listed a w h.1 hr
 refine wpOp_mono (fun a' w' h'=>⟨h', ?_⟩) (step listed a w i h.1 h.2 hi)
 obtain⟨h1,o',ho',h2⟩:=nZ.1 hi;have hil:i < listed.size:=by
  have:=zo h1;have:=(rN.1 this).1
  simpa using this
 intro j o ho hu e he hb;rw[bT hil] at hu ⊢;rcases hu with rfl | hu
 ·obtain rfl:o=o':=k8 (ho.symm.trans ho')
  exact .inr (h2 e he hb)
 ·exact .inr (h.2 j o ho hu e he hb)
end Go.Proofs.YtlmnjbipfacniaaGreatDoor
