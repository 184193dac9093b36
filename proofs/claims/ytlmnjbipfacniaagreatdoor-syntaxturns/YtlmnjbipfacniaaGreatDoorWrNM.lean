/- What pats.appendPat and Print do, for every right pattern. W -/
import Derived.Test.YtlmnjbipfacniaaGreatDoorPrintReg5M
import Derived.Test.YtlmnjbipfacniaaGreatDoorPrintSaid4M
import Derived.Lib.LaidTab
import Derived.Test.YtlmnjbipfacniaaGreatDoorRegionInvM
set_option maxRecDepth 100000
set_option maxHeartbeats 8000000
namespace Go.Proofs.YtlmnjbipfacniaaGreatDoor
open Go.Proofs.Tryz
open Go.RowKit
set_option linter.unusedVariables false
theorem rr {w:World} {B:Nat} {v:Value} {l:List UInt8} (h:bm w B v l) (W:World):(Builtin.len_ #[48] 3 #[v]).run prog W=.ok (.int .i64 (l.length:Int)) W:=by
 rcases h.2 with ⟨rfl,h0⟩ | ⟨g,cap,cur,rfl,_,_,_,_,_,_⟩
 ·rw[h0];go_simp
 ·go_simp
theorem IN (T:PT) (ih:∀i,i < T.len→oC (T.kid i)) (W w:World) (v:Value) (l:List UInt8) (hR:Ready W) (hT:T.In W) (bD:Below W.heap.size W w) (aA:T.bad=0) (hv:bm w W.heap.size v l) (hl:l.length≤65536) (hk:T.k≠1∧T.k≠18∧T.k≠19∧T.k≠21∧T.k≠22∧T.k≠23∧T.k≠24) (hN:max l.length 196700+30 * T.cnt≤10000000) (h4:T.cnt≤4096):
  Calls prog 78 #[v,.agg #[.int .i64 T.k,.string T.t,.int .i64 T.n,.string T.nm,.slice T.xa T.len T.cap]] w fun e w'=>mv W w v l T.txt (30 * T.cnt - 10) e w':=by
 obtain⟨r1,r2, -, -, -,r6, -⟩:=jy (fR aA).1;rcases (show T.k=20∨(12≤T.k∧T.k≤17)∨(T.k=2∨8≤T.k∧T.k≤11)∨(3≤T.k∧T.k≤7) by omega) with q | q | q | q
 ·have cM:0 < T.len:=by
   have h6:co T.k=1:=by unfold co;rw[ac (by omega),af (by omega)]
   omega
  exact KM T W w v l hR hT bD aA hv hl (by unfold aE;rw[ac (by omega),ac (by omega),ac (by omega)]) q (ih 0 cM) hN h4
 ·exact JB T W w v l hR hT bD aA hv hl (by unfold aE;rw[ac (by omega),ac (by omega),ac (by omega)]) q
 ·exact KL T W w v l hR hT bD aA hv hl (by unfold aE;rw[ac (by omega),af (by omega)]) q
 ·exact KK T W w v l hR hT bD aA hv hl (by unfold aE;rw[af (by omega)]) q
theorem Lw (T:PT) (ih:∀i,i < T.len→oC (T.kid i)) (W w:World) (v:Value) (l:List UInt8) (hR:Ready W) (hT:T.In W) (bD:Below W.heap.size W w) (aA:T.bad=0) (hv:bm w W.heap.size v l) (hN:max l.length 196700+30 * T.cnt≤10000000) (h4:T.cnt≤4096) (hl:65536 < l.length) (h0:True):
  Calls prog 41 #[v,.agg #[.int .i64 T.k,.string T.t,.int .i64 T.n,.string T.nm,.slice T.xa T.len T.cap]] w fun e w'=>mv W w v l T.txt (30 * T.cnt - 10) e w':=by
 obtain⟨r1,r2,r3,r4,r5,r6,r7⟩:=jy (fR aA).1;have fF:=PT.txt_eq r1;have j1:=T.cnt_pos;have cM:=rr hv;have aD:=ab ((aW w.heap.size w).alloc (ax _) (.cells #[.int .i64 T.k,.string T.t,.int .i64 T.n,.string T.nm,.slice T.xa T.len T.cap] 27));have ei:Hid ((w.alloc (.cells #[.int .i64 T.k,.string T.t,.int .i64 T.n,.string T.nm,.slice T.xa T.len T.cap] 27)).heap[w.heap.size]? =some (kG T.k T)):=ab (aw rfl);have ir:=ab (hv.apart (ax _));have jv:=ab (hv.later (aa aD));have fP:=ab (ap bD (aa aD));have gW:(65536:Int) < (l.length:Int):=by omega
 clear fF r1 r2 r3 r4 r5 r6 r7;go_enter func41,ntmps41;go_wp2_with fail;go_ret;exact⟨_,l,rfl,aa jv,Ext.below v (aa aD),aa fP,(Grew.gave l _ hl).more (by omega)⟩
theorem MZ (T:PT) (ih:∀i,i < T.len→oC (T.kid i)) (W w:World) (v:Value) (l:List UInt8) (hR:Ready W) (hT:T.In W) (bD:Below W.heap.size W w) (aA:T.bad=0) (hv:bm w W.heap.size v l) (hN:max l.length 196700+30 * T.cnt≤10000000) (h4:T.cnt≤4096) (hl:l.length≤65536) (hk:T.k=1):
  Calls prog 41 #[v,.agg #[.int .i64 T.k,.string T.t,.int .i64 T.n,.string T.nm,.slice T.xa T.len T.cap]] w fun e w'=>mv W w v l T.txt (30 * T.cnt - 10) e w':=by
 obtain⟨r1,r2,r3,r4,r5,r6,r7⟩:=jy (fR aA).1;have fF:=PT.txt_eq r1;have j1:=T.cnt_pos;have cM:=rr hv;have aD:=ab ((aW w.heap.size w).alloc (ax _) (.cells #[.int .i64 T.k,.string T.t,.int .i64 T.n,.string T.nm,.slice T.xa T.len T.cap] 27));have ei:Hid ((w.alloc (.cells #[.int .i64 T.k,.string T.t,.int .i64 T.n,.string T.nm,.slice T.xa T.len T.cap] 27)).heap[w.heap.size]? =some (kG T.k T)):=ab (aw rfl);have ir:=ab (hv.apart (ax _));have jv:=ab (hv.later (aa aD));have fP:=ab (ap bD (aa aD));have e1:(T.k==1)=true:=bt;have e18:(T.k==18)=false:=bn;have e19:(T.k==19)=false:=bn;have e21:(T.k==21)=false:=bn;have vv:(T.k==22)=false:=bn;have e23:(T.k==23)=false:=bn;have e24:(T.k==24)=false:=bn;have gW:¬(65536:Int) < (l.length:Int):=by omega
 have ja:=r3 (by unfold aE;rw[af (by omega)])
 have hqs:=A1 T.t ja;have HT:Hid (T.txt=(fU T.t).data.toList):=ab (by rw[fF,af hk];rfl)
 obtain⟨mm,rZ⟩:=hR.lim;have HQ:=ab (Bd T.t _ ja mm (av (aa fP) rZ));clear fF r1 r2 r3 r4 r5 r6 r7 hk;go_enter func41,ntmps41;go_wp2_with (first | (go_at_call 76;refine(aa HQ).mono ?_;rintro e w1 ⟨rfl,hb1⟩;have bf:=ab hb1;clear hb1) | (at_builtin;refine rs rfl _ _ rfl W.heap.size _ l (fU T.t) rfl rfl (by exact(aa jv).later (aa bf)) (by exact bJ (aa fP).size (aa bf).size) (by omega) ?_;intro v1 w1' gI da))
 go_ret;have hql:(fU T.t).data.toList.length=(fU T.t).size:=by simp
 exact⟨_,_,rfl,gI,((Ext.below v (aa aD)).trans (Ext.below v (aa bf))).trans da,(ap (aa fP) (aa bf)).trans (da.bel ((aa jv).later (aa bf)) (bJ (aa fP).size (aa bf).size)),((Grew.leaf l _ hl (by omega)).cast (aa HT).symm).more (by omega)⟩
theorem M3 (T:PT) (ih:∀i,i < T.len→oC (T.kid i)) (W w:World) (v:Value) (l:List UInt8) (hR:Ready W) (hT:T.In W) (bD:Below W.heap.size W w) (aA:T.bad=0) (hv:bm w W.heap.size v l) (hN:max l.length 196700+30 * T.cnt≤10000000) (h4:T.cnt≤4096) (hl:l.length≤65536) (hk:T.k=18):
  Calls prog 41 #[v,.agg #[.int .i64 T.k,.string T.t,.int .i64 T.n,.string T.nm,.slice T.xa T.len T.cap]] w fun e w'=>mv W w v l T.txt (30 * T.cnt - 10) e w':=by
 obtain⟨r1,r2,r3,r4,r5,r6,r7⟩:=jy (fR aA).1;have fF:=PT.txt_eq r1;have j1:=T.cnt_pos;have cM:=rr hv;have aD:=ab ((aW w.heap.size w).alloc (ax _) (.cells #[.int .i64 T.k,.string T.t,.int .i64 T.n,.string T.nm,.slice T.xa T.len T.cap] 27));have ei:Hid ((w.alloc (.cells #[.int .i64 T.k,.string T.t,.int .i64 T.n,.string T.nm,.slice T.xa T.len T.cap] 27)).heap[w.heap.size]? =some (kG T.k T)):=ab (aw rfl);have ir:=ab (hv.apart (ax _));have jv:=ab (hv.later (aa aD));have fP:=ab (ap bD (aa aD));have e1:(T.k==1)=false:=bn;have e18:(T.k==18)=true:=bt;have e19:(T.k==19)=false:=bn;have e21:(T.k==21)=false:=bn;have vv:(T.k==22)=false:=bn;have e23:(T.k==23)=false:=bn;have e24:(T.k==24)=false:=bn;have gW:¬(65536:Int) < (l.length:Int):=by omega
 have HT:Hid (T.txt=iJ [32] T.kidT T.len):=ab (by rw[fF,ac (by omega),af hk])
 have HC:=ab (T.cnt_eq);have HK:=ab (zz T ih ⟨#[32]⟩ (by decide) W _ v l hR hT (aa fP) aA (aa jv) (by omega) h4)
 clear fF r1 r2 r3 r4 r5 r6 r7 hk;go_enter func41,ntmps41;go_wp2_with fail;refine(aa HK).mono ?_;rintro e w1 ⟨v1,r1',rfl,hb1,da,mf,mO⟩;have fc:=ab (And.intro hb1 (And.intro da (And.intro mf mO)));clear hb1 da mf mO;go_wp2_with fail;go_ret;obtain⟨hb1,da,mf,mO⟩:=aa fc;exact⟨_,_,rfl,hb1,(Ext.below v (aa aD)).trans da,mf,(mO.cast (by rw[aa HT])).more (by have:=aa HC;omega)⟩
theorem M7 (T:PT) (ih:∀i,i < T.len→oC (T.kid i)) (W w:World) (v:Value) (l:List UInt8) (hR:Ready W) (hT:T.In W) (bD:Below W.heap.size W w) (aA:T.bad=0) (hv:bm w W.heap.size v l) (hN:max l.length 196700+30 * T.cnt≤10000000) (h4:T.cnt≤4096) (hl:l.length≤65536) (hk:T.k=19):
  Calls prog 41 #[v,.agg #[.int .i64 T.k,.string T.t,.int .i64 T.n,.string T.nm,.slice T.xa T.len T.cap]] w fun e w'=>mv W w v l T.txt (30 * T.cnt - 10) e w':=by
 obtain⟨r1,r2,r3,r4,r5,r6,r7⟩:=jy (fR aA).1;have fF:=PT.txt_eq r1;have j1:=T.cnt_pos;have cM:=rr hv;have aD:=ab ((aW w.heap.size w).alloc (ax _) (.cells #[.int .i64 T.k,.string T.t,.int .i64 T.n,.string T.nm,.slice T.xa T.len T.cap] 27));have ei:Hid ((w.alloc (.cells #[.int .i64 T.k,.string T.t,.int .i64 T.n,.string T.nm,.slice T.xa T.len T.cap] 27)).heap[w.heap.size]? =some (kG T.k T)):=ab (aw rfl);have ir:=ab (hv.apart (ax _));have jv:=ab (hv.later (aa aD));have fP:=ab (ap bD (aa aD));have e1:(T.k==1)=false:=bn;have e18:(T.k==18)=false:=bn;have e19:(T.k==19)=true:=bt;have e21:(T.k==21)=false:=bn;have vv:(T.k==22)=false:=bn;have e23:(T.k==23)=false:=bn;have e24:(T.k==24)=false:=bn;have gW:¬(65536:Int) < (l.length:Int):=by omega
 have HT:Hid (T.txt=iJ [32,124,32] T.kidT T.len):=ab (by rw[fF,ac (by omega),ac (by omega),af hk])
 have HC:=ab (T.cnt_eq);have HK:=ab (zz T ih ⟨#[32,124,32]⟩ (by decide) W _ v l hR hT (aa fP) aA (aa jv) (by omega) h4)
 clear fF r1 r2 r3 r4 r5 r6 r7 hk;go_enter func41,ntmps41;go_wp2_with fail;refine(aa HK).mono ?_;rintro e w1 ⟨v1,r1',rfl,hb1,da,mf,mO⟩;have fc:=ab (And.intro hb1 (And.intro da (And.intro mf mO)));clear hb1 da mf mO;go_wp2_with fail;go_ret;obtain⟨hb1,da,mf,mO⟩:=aa fc;exact⟨_,_,rfl,hb1,(Ext.below v (aa aD)).trans da,mf,(mO.cast (by rw[aa HT])).more (by have:=aa HC;omega)⟩
theorem M2 (T:PT) (ih:∀i,i < T.len→oC (T.kid i)) (W w:World) (v:Value) (l:List UInt8) (hR:Ready W) (hT:T.In W) (bD:Below W.heap.size W w) (aA:T.bad=0) (hv:bm w W.heap.size v l) (hN:max l.length 196700+30 * T.cnt≤10000000) (h4:T.cnt≤4096) (hl:l.length≤65536) (hk:T.k=21):
  Calls prog 41 #[v,.agg #[.int .i64 T.k,.string T.t,.int .i64 T.n,.string T.nm,.slice T.xa T.len T.cap]] w fun e w'=>mv W w v l T.txt (30 * T.cnt - 10) e w':=by
 obtain⟨r1,r2,r3,r4,r5,r6,r7⟩:=jy (fR aA).1;have fF:=PT.txt_eq r1;have j1:=T.cnt_pos;have cM:=rr hv;have aD:=ab ((aW w.heap.size w).alloc (ax _) (.cells #[.int .i64 T.k,.string T.t,.int .i64 T.n,.string T.nm,.slice T.xa T.len T.cap] 27));have ei:Hid ((w.alloc (.cells #[.int .i64 T.k,.string T.t,.int .i64 T.n,.string T.nm,.slice T.xa T.len T.cap] 27)).heap[w.heap.size]? =some (kG T.k T)):=ab (aw rfl);have ir:=ab (hv.apart (ax _));have jv:=ab (hv.later (aa aD));have fP:=ab (ap bD (aa aD));have e1:(T.k==1)=false:=bn;have e18:(T.k==18)=false:=bn;have e19:(T.k==19)=false:=bn;have e21:(T.k==21)=true:=bt;have vv:(T.k==22)=false:=bn;have e23:(T.k==23)=false:=bn;have e24:(T.k==24)=false:=bn;have gW:¬(65536:Int) < (l.length:Int):=by omega
 have bY:T.nm.size≤16:=zk (fR aA).1 (by omega)
 have HT:Hid (T.txt=iJ [] T.kidT T.len++[32,46,32]++T.nm.data.toList):=ab (by rw[fF,ac (by omega),ac (by omega),ac (by omega),af hk])
 have HC:=ab (T.cnt_eq);have HKS:=ab (fun w1 (hb:Below W.heap.size W w1) (gI:bm w1 W.heap.size v l)=>zz T ih ⟨#[]⟩ (by decide) W w1 v l hR hT hb aA gI (by omega) h4)
 clear fF r1 r2 r3 r4 r5 r6 r7 hk;go_enter func41,ntmps41;go_wp2_with fail;refine Jw (B:=W.heap.size) (r:=l) (bx:=w.heap.size) (row:=kG T.k T) (nm:=T.nm) (pat:=.agg #[.int .i64 T.k,.string T.t,.int .i64 T.n,.string T.nm,.slice T.xa T.len T.cap]) (M:=fun l2=>Grew l (iJ [] T.kidT T.len) l2 (30 * eU (fun i=>(T.kid i).cnt) T.len)) ca ca ca ca ca ca ca ca rfl rfl rfl (aa jv) (aa fP).size (by omega) rfl (aa ei) (aa ir) bY (fun W=>wg _ 3 (by omega) W) (fun W hW=>yv (lB hW).2.2.2.1) (fun W hW=>by
   obtain⟨k0,k1,k2,k3,k4⟩:=lB hW;exact Cj k0 k1 k2 k3 k4) (fun l2 h2=>by have:=h2.most;have:=aa HC;omega) (fun w3 hb3 pY=>(aa HKS w3 ((aa fP).trans (pY.bel (aa jv) (aa fP).size)) hb3).mono fun e w4 h=>by
   obtain⟨v4,r4',rfl,q1,q2,q3,q4⟩:=h;exact⟨v4,rfl,r4',q1,q2,q4⟩) ?_
 intro x w2 v2 l2 hb2 eP he2 cy;have kx:=ab (And.intro hb2 (And.intro eP he2));clear hb2 eP he2;simp only[fl];go_frame;rw[cy];clear cy;go_wp2_with fail;go_ret;obtain⟨hb2,eP,he2⟩:=aa kx;obtain⟨l0,hg,rfl⟩:=eP;have fM:T.nm.data.toList.length=T.nm.size:=by simp
 have hC:=aa HC;exact⟨_,_,rfl,hb2,(Ext.below v (aa aD)).trans he2,(aa fP).trans (he2.bel (aa jv) (aa fP).size),(((hg.trans (Grew.put l0 [32,46,32])).trans (Grew.put _ T.nm.data.toList)).cast (aa HT).symm).more (by simp only[List.length_cons,List.length_nil];omega)⟩
theorem M0 (T:PT) (ih:∀i,i < T.len→oC (T.kid i)) (W w:World) (v:Value) (l:List UInt8) (hR:Ready W) (hT:T.In W) (bD:Below W.heap.size W w) (aA:T.bad=0) (hv:bm w W.heap.size v l) (hN:max l.length 196700+30 * T.cnt≤10000000) (h4:T.cnt≤4096) (hl:l.length≤65536) (hk:T.k=22):
  Calls prog 41 #[v,.agg #[.int .i64 T.k,.string T.t,.int .i64 T.n,.string T.nm,.slice T.xa T.len T.cap]] w fun e w'=>mv W w v l T.txt (30 * T.cnt - 10) e w':=by
 obtain⟨r1,r2,r3,r4,r5,r6,r7⟩:=jy (fR aA).1;have fF:=PT.txt_eq r1;have j1:=T.cnt_pos;have cM:=rr hv;have aD:=ab ((aW w.heap.size w).alloc (ax _) (.cells #[.int .i64 T.k,.string T.t,.int .i64 T.n,.string T.nm,.slice T.xa T.len T.cap] 27));have ei:Hid ((w.alloc (.cells #[.int .i64 T.k,.string T.t,.int .i64 T.n,.string T.nm,.slice T.xa T.len T.cap] 27)).heap[w.heap.size]? =some (kG T.k T)):=ab (aw rfl);have ir:=ab (hv.apart (ax _));have jv:=ab (hv.later (aa aD));have fP:=ab (ap bD (aa aD));have e1:(T.k==1)=false:=bn;have e18:(T.k==18)=false:=bn;have e19:(T.k==19)=false:=bn;have e21:(T.k==21)=false:=bn;have vv:(T.k==22)=true:=bt;have e23:(T.k==23)=false:=bn;have e24:(T.k==24)=false:=bn;have gW:¬(65536:Int) < (l.length:Int):=by omega
 have bY:T.nm.size≤16:=zk (fR aA).1 (by omega)
 have HT:Hid (T.txt=iJ [] T.kidT T.len++[32,36,32]++T.nm.data.toList):=ab (by rw[fF,ac (by omega),ac (by omega),ac (by omega),ac (by omega),af hk])
 have HC:=ab (T.cnt_eq);have HKS:=ab (fun w1 (hb:Below W.heap.size W w1) (gI:bm w1 W.heap.size v l)=>zz T ih ⟨#[]⟩ (by decide) W w1 v l hR hT hb aA gI (by omega) h4)
 clear fF r1 r2 r3 r4 r5 r6 r7 hk;go_enter func41,ntmps41;go_wp2_with fail;refine Js (B:=W.heap.size) (r:=l) (bx:=w.heap.size) (row:=kG T.k T) (nm:=T.nm) (pat:=.agg #[.int .i64 T.k,.string T.t,.int .i64 T.n,.string T.nm,.slice T.xa T.len T.cap]) (M:=fun l2=>Grew l (iJ [] T.kidT T.len) l2 (30 * eU (fun i=>(T.kid i).cnt) T.len)) ca ca ca ca ca ca ca ca rfl rfl rfl (aa jv) (aa fP).size (by omega) rfl (aa ei) (aa ir) bY (fun W=>wg _ 3 (by omega) W) (fun W hW=>yv (lB hW).2.2.2.1) (fun W hW=>by
   obtain⟨k0,k1,k2,k3,k4⟩:=lB hW;exact Cj k0 k1 k2 k3 k4) (fun l2 h2=>by have:=h2.most;have:=aa HC;omega) (fun w3 hb3 pY=>(aa HKS w3 ((aa fP).trans (pY.bel (aa jv) (aa fP).size)) hb3).mono fun e w4 h=>by
   obtain⟨v4,r4',rfl,q1,q2,q3,q4⟩:=h;exact⟨v4,rfl,r4',q1,q2,q4⟩) ?_
 intro x w2 v2 l2 hb2 eP he2 cy;have kx:=ab (And.intro hb2 (And.intro eP he2));clear hb2 eP he2;simp only[fl];go_frame;rw[cy];clear cy;go_wp2_with fail;go_ret;obtain⟨hb2,eP,he2⟩:=aa kx;obtain⟨l0,hg,rfl⟩:=eP;have fM:T.nm.data.toList.length=T.nm.size:=by simp
 have hC:=aa HC;exact⟨_,_,rfl,hb2,(Ext.below v (aa aD)).trans he2,(aa fP).trans (he2.bel (aa jv) (aa fP).size),(((hg.trans (Grew.put l0 [32,36,32])).trans (Grew.put _ T.nm.data.toList)).cast (aa HT).symm).more (by simp only[List.length_cons,List.length_nil];omega)⟩
theorem M1 (T:PT) (ih:∀i,i < T.len→oC (T.kid i)) (W w:World) (v:Value) (l:List UInt8) (hR:Ready W) (hT:T.In W) (bD:Below W.heap.size W w) (aA:T.bad=0) (hv:bm w W.heap.size v l) (hN:max l.length 196700+30 * T.cnt≤10000000) (h4:T.cnt≤4096) (hl:l.length≤65536) (hk:T.k=23):
  Calls prog 41 #[v,.agg #[.int .i64 T.k,.string T.t,.int .i64 T.n,.string T.nm,.slice T.xa T.len T.cap]] w fun e w'=>mv W w v l T.txt (30 * T.cnt - 10) e w':=by
 obtain⟨r1,r2,r3,r4,r5,r6,r7⟩:=jy (fR aA).1;have fF:=PT.txt_eq r1;have j1:=T.cnt_pos;have cM:=rr hv;have aD:=ab ((aW w.heap.size w).alloc (ax _) (.cells #[.int .i64 T.k,.string T.t,.int .i64 T.n,.string T.nm,.slice T.xa T.len T.cap] 27));have ei:Hid ((w.alloc (.cells #[.int .i64 T.k,.string T.t,.int .i64 T.n,.string T.nm,.slice T.xa T.len T.cap] 27)).heap[w.heap.size]? =some (kG T.k T)):=ab (aw rfl);have ir:=ab (hv.apart (ax _));have jv:=ab (hv.later (aa aD));have fP:=ab (ap bD (aa aD));have e1:(T.k==1)=false:=bn;have e18:(T.k==18)=false:=bn;have e19:(T.k==19)=false:=bn;have e21:(T.k==21)=false:=bn;have vv:(T.k==22)=false:=bn;have e23:(T.k==23)=true:=bt;have e24:(T.k==24)=false:=bn;have gW:¬(65536:Int) < (l.length:Int):=by omega
 have bY:T.nm.size≤16:=zk (fR aA).1 (by omega)
 have HT:Hid (T.txt=64::T.nm.data.toList):=ab (by rw[fF,ac (by omega),ac (by omega),ac (by omega),ac (by omega),ac (by omega),af hk])
 clear fF r1 r2 r3 r4 r5 r6 r7 hk;go_enter func41,ntmps41;go_wp2_with fail;refine Jv (B:=W.heap.size) (r:=l) (bx:=w.heap.size) (row:=kG T.k T) (nm:=T.nm) ca ca ca ca ca ca ca rfl rfl rfl (aa jv) (aa fP).size (by omega) rfl (aa ei) (aa ir) bY (fun W=>wg _ 3 (by omega) W) (fun W hW=>yv (lB hW).2.2.2.1) ?_
 intro x w2 v2 l2 hb2 eP he2 cy;have kx:=ab (And.intro hb2 (And.intro eP he2));clear hb2 eP he2;simp only[fl];go_frame;rw[cy];clear cy;go_wp2_with fail;go_ret;obtain⟨hb2,eP,he2⟩:=aa kx;have eP:l2=l++[64]++T.nm.data.toList:=eP;subst eP;have fM:T.nm.data.toList.length=T.nm.size:=by simp
 exact⟨_,_,rfl,hb2,(Ext.below v (aa aD)).trans he2,(aa fP).trans (he2.bel (aa jv) (aa fP).size),(((Grew.leaf l (64::T.nm.data.toList) hl (by simp only[List.length_cons];omega)).cast (aa HT).symm).more (by omega)).ret (by simp)⟩
theorem M4 (T:PT) (ih:∀i,i < T.len→oC (T.kid i)) (W w:World) (v:Value) (l:List UInt8) (hR:Ready W) (hT:T.In W) (bD:Below W.heap.size W w) (aA:T.bad=0) (hv:bm w W.heap.size v l) (hN:max l.length 196700+30 * T.cnt≤10000000) (h4:T.cnt≤4096) (hl:l.length≤65536) (hk:T.k=24):
  Calls prog 41 #[v,.agg #[.int .i64 T.k,.string T.t,.int .i64 T.n,.string T.nm,.slice T.xa T.len T.cap]] w fun e w'=>mv W w v l T.txt (30 * T.cnt - 10) e w':=by
 obtain⟨r1,r2,r3,r4,r5,r6,r7⟩:=jy (fR aA).1;have fF:=PT.txt_eq r1;have j1:=T.cnt_pos;have cM:=rr hv;have aD:=ab ((aW w.heap.size w).alloc (ax _) (.cells #[.int .i64 T.k,.string T.t,.int .i64 T.n,.string T.nm,.slice T.xa T.len T.cap] 27));have ei:Hid ((w.alloc (.cells #[.int .i64 T.k,.string T.t,.int .i64 T.n,.string T.nm,.slice T.xa T.len T.cap] 27)).heap[w.heap.size]? =some (kG T.k T)):=ab (aw rfl);have ir:=ab (hv.apart (ax _));have jv:=ab (hv.later (aa aD));have fP:=ab (ap bD (aa aD));have e1:(T.k==1)=false:=bn;have e18:(T.k==18)=false:=bn;have e19:(T.k==19)=false:=bn;have e21:(T.k==21)=false:=bn;have vv:(T.k==22)=false:=bn;have e23:(T.k==23)=false:=bn;have e24:(T.k==24)=true:=bt;have gW:¬(65536:Int) < (l.length:Int):=by omega
 have bY:T.nm.size≤16:=zk (fR aA).1 (by omega)
 have HT:Hid (T.txt=42::T.nm.data.toList):=ab (by rw[fF,ac (by omega),ac (by omega),ac (by omega),ac (by omega),ac (by omega),ac (by omega),af hk])
 clear fF r1 r2 r3 r4 r5 r6 r7 hk;go_enter func41,ntmps41;go_wp2_with fail;refine Jy (B:=W.heap.size) (r:=l) (bx:=w.heap.size) (row:=kG T.k T) (nm:=T.nm) ca ca ca ca ca ca ca rfl rfl rfl (aa jv) (aa fP).size (by omega) rfl (aa ei) (aa ir) bY (fun W=>wg _ 3 (by omega) W) (fun W hW=>yv (lB hW).2.2.2.1) ?_
 intro x w2 v2 l2 hb2 eP he2 cy;have kx:=ab (And.intro hb2 (And.intro eP he2));clear hb2 eP he2;simp only[fl];go_frame;rw[cy];clear cy;go_wp2_with fail;go_ret;obtain⟨hb2,eP,he2⟩:=aa kx;have eP:l2=l++[42]++T.nm.data.toList:=eP;subst eP;have fM:T.nm.data.toList.length=T.nm.size:=by simp
 exact⟨_,_,rfl,hb2,(Ext.below v (aa aD)).trans he2,(aa fP).trans (he2.bel (aa jv) (aa fP).size),(((Grew.leaf l (42::T.nm.data.toList) hl (by simp only[List.length_cons];omega)).cast (aa HT).symm).more (by omega)).ret (by simp)⟩
theorem Lu (T:PT) (ih:∀i,i < T.len→oC (T.kid i)) (W w:World) (v:Value) (l:List UInt8) (hR:Ready W) (hT:T.In W) (bD:Below W.heap.size W w) (aA:T.bad=0) (hv:bm w W.heap.size v l) (hN:max l.length 196700+30 * T.cnt≤10000000) (h4:T.cnt≤4096) (hl:l.length≤65536) (hk:T.k≠1∧T.k≠18∧T.k≠19∧T.k≠21∧T.k≠22∧T.k≠23∧T.k≠24):
  Calls prog 41 #[v,.agg #[.int .i64 T.k,.string T.t,.int .i64 T.n,.string T.nm,.slice T.xa T.len T.cap]] w fun e w'=>mv W w v l T.txt (30 * T.cnt - 10) e w':=by
 obtain⟨r1,r2,r3,r4,r5,r6,r7⟩:=jy (fR aA).1;have fF:=PT.txt_eq r1;have j1:=T.cnt_pos;have cM:=rr hv;have aD:=ab ((aW w.heap.size w).alloc (ax _) (.cells #[.int .i64 T.k,.string T.t,.int .i64 T.n,.string T.nm,.slice T.xa T.len T.cap] 27));have ei:Hid ((w.alloc (.cells #[.int .i64 T.k,.string T.t,.int .i64 T.n,.string T.nm,.slice T.xa T.len T.cap] 27)).heap[w.heap.size]? =some (kG T.k T)):=ab (aw rfl);have ir:=ab (hv.apart (ax _));have jv:=ab (hv.later (aa aD));have fP:=ab (ap bD (aa aD));have e1:(T.k==1)=false:=bn;have e18:(T.k==18)=false:=bn;have e19:(T.k==19)=false:=bn;have e21:(T.k==21)=false:=bn;have vv:(T.k==22)=false:=bn;have e23:(T.k==23)=false:=bn;have e24:(T.k==24)=false:=bn;have gW:¬(65536:Int) < (l.length:Int):=by omega
 have HK:=ab (IN T ih W _ v l hR hT (aa fP) aA (aa jv) hl hk hN h4);clear fF r1 r2 r3 r4 r5 r6 r7 hk;go_enter func41,ntmps41;go_wp2_with fail;refine(aa HK).mono ?_;rintro e w1 ⟨v1,r1',rfl,hb1,da,mf,mO⟩;have fc:=ab (And.intro hb1 (And.intro da (And.intro mf mO)));clear hb1 da mf mO;go_wp2_with fail;go_ret;obtain⟨hb1,da,mf,mO⟩:=aa fc;exact⟨_,_,rfl,hb1,(Ext.below v (aa aD)).trans da,mf,mO⟩
theorem M6:∀T:PT,oC T:=PT.ind fun T ih W w v l hR hT bD aA hv hN h4=>by
 rcases cX 65536 l.length with hl | hl
 ·exact Lw T ih W w v l hR hT bD aA hv hN h4 hl trivial
 by_cases k1:T.k=1
 ·exact MZ T ih W w v l hR hT bD aA hv hN h4 hl k1
 by_cases k18:T.k=18
 ·exact M3 T ih W w v l hR hT bD aA hv hN h4 hl k18
 by_cases k19:T.k=19
 ·exact M7 T ih W w v l hR hT bD aA hv hN h4 hl k19
 by_cases k21:T.k=21
 ·exact M2 T ih W w v l hR hT bD aA hv hN h4 hl k21
 by_cases k22:T.k=22
 ·exact M0 T ih W w v l hR hT bD aA hv hN h4 hl k22
 by_cases k23:T.k=23
 ·exact M1 T ih W w v l hR hT bD aA hv hN h4 hl k23
 by_cases k24:T.k=24
 ·exact M4 T ih W w v l hR hT bD aA hv hN h4 hl k24
 exact Lu T ih W w v l hR hT bD aA hv hN h4 hl ⟨k1,k18,k19,k21,k22,k23,k24⟩
open Go.RowKit
theorem Hu {T:PT} (h:T.wrong=0):T.bad=0∧T.cnt≤4096:=by
 unfold PT.wrong at h
 cases hf:T.fits with
 | false=>rw[hf] at h;simp at h
 | true=>
  rw[hf] at h;refine⟨by simpa using h, ?_⟩
  unfold PT.fits at hf;simp at hf;exact hf.1
theorem Ready.later {w w':World} (h:Ready w) (hb:Below w.heap.size w w'):Ready w':=by
 obtain⟨m,hm⟩:=h.lim;exact⟨h.shapes.later hb,⟨m,av hb hm⟩,Lib.tabBelow_of_tabIs (h.pow w' hb)⟩
theorem xX {w:World} {B:Nat} {v:Value} {l:List UInt8} (ho:bm w B v l):
  (convert 48 9 v).run prog w=.ok (.string ⟨l.toArray⟩) w:=by
 rcases ho.2 with ⟨rfl,h0⟩ | ⟨g,cap,cur,rfl,_,_,_,_,_,_⟩
 ·have:l=[]:=kJ h0
  subst this;exact run_convert_bytes_nil (P:=prog) w 48 5 underlying48 underlying5 0 0 9 underlying9
 ·exact run_convert_bytes_back (P:=prog) w 48 9 5 ⟨g,0,none⟩ cap l underlying48 underlying5 underlying9 (fun j hj=>World.ownsRow.cells ho rfl j _ (by simp only[rP,jH hj,Option.map_some,bc]))
theorem JW (T:PT) (w:World) (hR:Ready w) (hT:T.In w):
  Calls prog 19 #[pv T] w fun e w'=>e=.returned (kD T)∧Below w.heap.size w w':=by
 have HW:=ab (fun W (h:Below w.heap.size w W)=>zr T W (PT.In.later h hT) (hR.shapes.later h))
 have dr:=(aW w.heap.size w).alloc (ax _) (.cells #[.int .i64 T.k,.string T.t,.int .i64 T.n,.string T.nm,.slice T.xa T.len T.cap] 27);have HP:=ab (fun W (h:Below w.heap.size w W) hb hc=>M6 T w W (.slice none 0 0) [] hR hT h hb (m8 _ _ _ _) (by show max 0 196700+_≤_;omega) hc)
 unfold pv at HW ⊢;clear hT hR;go_enter func19,ntmps19;go_wp2_with fail;refine(aa HW _ dr).mono ?_;rintro e w1 ⟨rfl,hb1⟩;have H1:=ab (ap dr hb1);obtain⟨c0,c1,c2,c3,c4⟩:=Nx (am (aw rfl) hb1);clear dr hb1 HW
 by_cases hz:T.wrong=0
 ·have HC:=ab (Hu hz)
  have HS:Hid (kD T=(if 65536 < T.txt.length then .tuple #[.string ⟨#[]⟩,.int .i64 4] else .tuple #[.string ⟨T.txt.toArray⟩,.int .i64 0])):=ab (by unfold kD;rw[af hz])
  rw[hz];clear hz;go_wp2_with fail;refine(aa HP _ (aa H1) (aa HC).1 (aa HC).2).mono ?_;rintro e w2 ⟨v2,r2,rfl,hb2, -,kP,fk⟩;have H2:=ab kP;have cM:=rr hb2;have hout:=xX hb2;have hs:=fk.same;have hl:=fk.long;rw[List.nil_append] at hs hl;clear c0 c1 c2 c3 c4 kP
  by_cases hq:65536 < T.txt.length
  ·have h1:(65536:Int) < (r2.length:Int):=by have:=hl hq;omega
   have HE:Hid (kD T=.tuple #[.string ⟨#[]⟩,.int .i64 4]):=ab (by rw[aa HS,af hq])
   clear hq hs hl fk hb2;go_wp2_with fail;go_ret2;exact⟨by rw[aa HE];rfl,aa H2⟩
  ·have e:=hs (by omega)
   subst e;have h1:¬(65536:Int) < (T.txt.length:Int):=by omega
   have HE:Hid (kD T=.tuple #[.string ⟨T.txt.toArray⟩,.int .i64 0]):=ab (by rw[aa HS,ac hq])
   generalize T.txt=tx at *;clear hq hs hl fk hb2;go_wp2_with fail;go_ret2;exact⟨by rw[aa HE];rfl,aa H2⟩
 ·have HS:Hid (kD T=.tuple #[.string ⟨#[]⟩,.int .i64 T.wrong]):=ab (by unfold kD;rw[ac hz])
  have bo:(T.wrong !=0)=true:=by rw[rU];exact hz
  clear hz;go_wp2_with fail;go_ret2;exact⟨by rw[aa HS];rfl,aa H1⟩
open Go.RowKit
def iy (S:SV):ByteArray × Int:=if S.wrong≠0 then (ByteArray.empty,S.wrong) else if (S.k=4∨S.k=5∨S.k=6)∧65536 < S.pa.txt.length then (ByteArray.empty,4) else if eN (ar (cj S))=true then (ByteArray.empty,2) else if 2000 < (ar (cj S)).length then (ByteArray.empty,4) else (⟨(ar (cj S)).toArray⟩,0)
def iW (S:SV):Value:=.tuple #[.string (iy S).1,.int .i64 (iy S).2]
structure PrW (w:World):Prop where
 env:EnvW w
 rdy:Ready w
theorem PrW.later {w w':World} (h:PrW w) (hb:Below w.heap.size w w'):PrW w':=⟨h.env.later hb,h.rdy.later hb⟩
theorem BR (t:List UInt8):((⟨#[91]⟩:ByteArray)++⟨t.toArray⟩++⟨#[93]⟩).data.toList=91::(t++[93]):=by
 simp
theorem Be {S:SV} (h:S.wrong=0) (hk:S.k=4∨S.k=5∨S.k=6):S.pa.wrong=0:=by
 obtain⟨-,hq⟩:=qi h;unfold SV.kndE at hq;rcases hk with hk | hk | hk
 ·rw[hk] at hq
  have hq:dN [S.va.wrongX,S.pa.wrong]=0:=hq;exact(cI (cI hq).2).1
 ·rw[hk] at hq
  have hq:dN [jo S.tg,S.pa.wrong,S.va.wrongX]=0:=hq;exact(cI (cI hq).2).1
 ·rw[hk] at hq
  have hq:dN [cV [S.nm],S.pa.wrong]=0:=hq;exact(cI (cI hq).2).1
theorem zh (S:SV) (w:World) (hP:PrW w) (dx:S.In w):Calls prog 7 #[S.v] w fun e w'=>e=.returned (iW S)∧Below w.heap.size w w':=by
 obtain⟨C,hC⟩:∃C,C=S.cells:=⟨_,rfl⟩;have dc:S.v=.agg C:=by rw[hC];rfl
 have gz:=ab dc;have dL:Hid (C.size=24):=ab (by rw[hC];rfl)
 have dM:C[1]? =some (.int .i64 S.k):=by rw[hC];rfl
 have HPAT:Hid (C[12]? =some (.int .i64 S.pa.k)∧C[13]? =some (.string S.pa.t)∧C[14]? =some (.int .i64 S.pa.n)∧C[15]? =some (.string S.pa.nm)∧C[16]? =some (.slice S.pa.xa S.pa.len S.pa.cap)):=ab (by rw[hC];exact⟨rfl,rfl,rfl,rfl,rfl⟩)
 obtain⟨w1,aL⟩:∃w1,w1=w.alloc (.cells C 30):=⟨_,rfl⟩;have bz:Below w.heap.size w w1:=by rw[aL];exact ba _
 have rV:Hid (w1.heap[w.heap.size]? =some (.cells C 30 (0,0))):=ab (by rw[aL];exact aw rfl)
 have bi:Hid (w.alloc (.cells C 30)=w1):=ab (aL.symm);have HWG:Hid (Calls prog 11 #[.agg C] w1 fun e w'=>e=.returned (.int .i64 S.wrong)∧Below w1.heap.size w1 w'):=ab (dc▸Bm S w1 (dx.later bz) (hP.env.shx.later bz) (hP.rdy.shapes.later bz))
 have jN:=ab (fun (W1:World) (h:Below w.heap.size w W1)=>show Calls prog 19 #[.agg #[.int .i64 S.pa.k,.string S.pa.t,.int .i64 S.pa.n,.string S.pa.nm,.slice S.pa.xa S.pa.len S.pa.cap]] W1 fun e w'=>e=.returned (kD S.pa)∧Below W1.heap.size W1 w' from JW S.pa W1 (hP.rdy.later h) (PT.In.later h dx.pa))
 have oY:=ab hP;have je:=ab dx;have HAL:=ab bz;have tY:Hid (iy S=if S.wrong≠0 then (ByteArray.empty,S.wrong) else if (S.k=4∨S.k=5∨S.k=6)∧65536 < S.pa.txt.length then (ByteArray.empty,4) else if eN (ar (cj S))=true then (ByteArray.empty,2) else if 2000 < (ar (cj S)).length then (ByteArray.empty,4) else (⟨(ar (cj S)).toArray⟩,0)):=ab (rfl);rw[dc];have HCK:=ab dM;clear hP dx bz aL hC dc dM;go_enter func7,ntmps7;go_wp2_with (first
  | (refine gG rfl 30 _ rfl w.heap.size rfl 30 C (0,0) _ (by rw[aa bi];exact aa rV) underlying30 rfl (pA.trans (by rw[aa dL])) ?_)
  | fail)
 rw[aa bi];refine(aa HWG).mono ?_;rintro e w2 ⟨rfl,hb2⟩;have aF:=ab (ap (aa HAL) hb2);have cR:=ab (am (aa rV) hb2);clear hb2 HWG
 by_cases hw:S.wrong=0
 ·have mg:=ab hw
  have q0:(S.wrong !=0)=false:=by rw[hw];rfl
  have n7:=ab ((aa tY).trans (ac (fun q=>q hw)))
  have c1:=bE (aa cR) (aa HCK);clear hw tY
  by_cases jb:S.k=4∨S.k=5∨S.k=6
  ·rcases jb with h | h | h
   ·have jb:S.k=4∨S.k=5∨S.k=6:=.inl h
    rw[h] at c1;obtain⟨m0,m1,m2,m3,m4⟩:=aa HPAT;have g0:=bE (aa cR) m0;have g1:=bE (aa cR) m1;have g2:=bE (aa cR) m2;have g3:=bE (aa cR) m3;have g4:=bE (aa cR) m4;have iS:=Be (aa mg) jb;have mi:=ab (aa jN w2 (aa aF))
    by_cases hl:65536 < S.pa.txt.length
    ·have hs:kD S.pa=.tuple #[.string ⟨#[]⟩,.int .i64 4]:=by unfold kD;rw[af iS,af hl]
     rw[hs] at mi;have HA:=ab ((aa n7).trans (af ⟨jb,hl⟩));clear hs hl jb h m0 m1 m2 m3 m4 iS n7 jN;go_wp2_with fail;refine(aa mi).mono ?_;rintro e w3 ⟨rfl,hb3⟩;have aq:=ab ((aa aF).trans (hb3.mono (aa aF).size));clear hb3;go_wp2_with fail;go_ret2;exact⟨by unfold iW;rw[aa HA];rfl,aa aq⟩
    ·have hs:kD S.pa=.tuple #[.string ⟨S.pa.txt.toArray⟩,.int .i64 0]:=by unfold kD;rw[af iS,ac hl]
     rw[hs] at mi;have mQ:=ab ((aa n7).trans (ac (fun q=>hl q.2)))
     obtain⟨p,hp⟩:∃p:ByteArray,p=⟨S.pa.txt.toArray⟩:=⟨_,rfl⟩;have mK:p.size≤65536:=by rw[hp];show S.pa.txt.toArray.size≤65536;rw[wo];omega
     have mj:Hid (S.k=4∨S.k=5∨S.k=6→((⟨#[91]⟩:ByteArray)++p++⟨#[93]⟩).data.toList=91::(S.pa.txt++[93])∧((⟨#[91]⟩:ByteArray)++p++⟨#[93]⟩).size≤65538):=ab (fun _=>⟨by rw[hp];exact BR _,by
      rw[wn,wn];have e1:(⟨#[91]⟩:ByteArray).size=1:=rfl;have e2:(⟨#[93]⟩:ByteArray).size=1:=rfl;omega⟩)
     rw[←hp] at mi;clear hs hl jb h m0 m1 m2 m3 m4 iS n7 jN hp;go_wp2_with fail;refine(aa mi).mono ?_;rintro e w3 ⟨rfl,hb3⟩;have aq:=ab ((aa aF).trans (hb3.mono (aa aF).size));have cY:=ab (am (aa cR) hb3);clear hb3 g0 g1 g2 g3 g4 c1;obtain⟨zw,jJ⟩:∃zw,zw=w3.alloc (.cells #[.slice none 0 0,.bool false] 59):=⟨_,rfl⟩;have jK:Below w3.heap.size w3 zw:=by rw[jJ];exact ba _
     have nh:WrI (w3.heap.size+1) w3.heap.size zw (.slice none 0 0) [] false:=by
      refine⟨by rw[jJ];exact aw rfl,m8 _ _ _ _,by omega,by rw[jJ];simp⟩
     have fw:=ab (zD S ((⟨#[91]⟩:ByteArray)++p++⟨#[93]⟩) ((aa oY).env.later (aa aq)) jK (ax _) nh ((aa je).later (aa aq)) (aa mg) (aa mj) (by decide))
     rw[aa gz] at fw;have qg:=ab (ap (aa aq) jK);have wH:=ab (am (aa cY) jK);have qX:Hid (w3.alloc (.cells #[.slice none 0 0,.bool false] 59)=zw):=ab (jJ.symm);have HZB:=ab jK;have HZI:=ab nh;clear jJ jK nh;go_wp2_with (first
      | (refine gG rfl 30 _ rfl w.heap.size rfl 30 C (0,0) _ (by rw[aa qX];exact aa wH) underlying30 rfl (pA.trans (by rw[aa dL])) ?_)
      | fail)
     rw[aa qX];refine(aa fw).mono ?_;rintro e w9 ⟨rfl,v9,o9,n8,ic,qO⟩;have ij:Hid (Below w.heap.size w w9):=ab ((aa aq).trans ((WX.bel (aa HZB) (aa HZI) (ax _) n8).mono (aa aq).size));obtain⟨xa,cp,oM⟩:=sH ic.row;subst oM;have c0:=ic.c0;have c1:=ic.c1;have hcv:=xX ic.row;have HG:=ab qO;rw[xF] at c1;clear n8 ic qO fw
     cases fM:eN (ar (cj S))
     ·rw[fM] at c1
      have HA:=aa mQ;rw[ac (by rw[fM];decide)] at HA
      by_cases hl:2000 < (ar (cj S)).length
      ·have q:=(aa HG).long hl
       have q2:(2000:Int) < (o9.length:Int):=by omega
       rw[af hl] at HA;have HA:=ab HA;clear hl q fM;go_wp2_with fail;go_ret2;exact⟨by unfold iW;rw[aa HA];rfl,aa ij⟩
      ·have q:=(aa HG).same (by rw[List.nil_append];omega)
       rw[List.nil_append] at q;have q2:¬(2000:Int) < (o9.length:Int):=by rw[q];omega
       rw[ac hl] at HA;have HA:=ab HA;have HQ:=ab q;clear hl q fM;go_wp2_with fail;go_ret2;exact⟨by unfold iW;rw[aa HA,aa HQ];rfl,aa ij⟩
     ·rw[fM] at c1
      have HA:=aa mQ;rw[af fM] at HA;have HA:=ab HA;clear fM;go_wp2_with fail;go_ret2;exact⟨by unfold iW;rw[aa HA];rfl,aa ij⟩
   ·have jb:S.k=4∨S.k=5∨S.k=6:=.inr (.inl h)
    rw[h] at c1;obtain⟨m0,m1,m2,m3,m4⟩:=aa HPAT;have g0:=bE (aa cR) m0;have g1:=bE (aa cR) m1;have g2:=bE (aa cR) m2;have g3:=bE (aa cR) m3;have g4:=bE (aa cR) m4;have iS:=Be (aa mg) jb;have mi:=ab (aa jN w2 (aa aF))
    by_cases hl:65536 < S.pa.txt.length
    ·have hs:kD S.pa=.tuple #[.string ⟨#[]⟩,.int .i64 4]:=by unfold kD;rw[af iS,af hl]
     rw[hs] at mi;have HA:=ab ((aa n7).trans (af ⟨jb,hl⟩));clear hs hl jb h m0 m1 m2 m3 m4 iS n7 jN;go_wp2_with fail;refine(aa mi).mono ?_;rintro e w3 ⟨rfl,hb3⟩;have aq:=ab ((aa aF).trans (hb3.mono (aa aF).size));clear hb3;go_wp2_with fail;go_ret2;exact⟨by unfold iW;rw[aa HA];rfl,aa aq⟩
    ·have hs:kD S.pa=.tuple #[.string ⟨S.pa.txt.toArray⟩,.int .i64 0]:=by unfold kD;rw[af iS,ac hl]
     rw[hs] at mi;have mQ:=ab ((aa n7).trans (ac (fun q=>hl q.2)))
     obtain⟨p,hp⟩:∃p:ByteArray,p=⟨S.pa.txt.toArray⟩:=⟨_,rfl⟩;have mK:p.size≤65536:=by rw[hp];show S.pa.txt.toArray.size≤65536;rw[wo];omega
     have mj:Hid (S.k=4∨S.k=5∨S.k=6→((⟨#[91]⟩:ByteArray)++p++⟨#[93]⟩).data.toList=91::(S.pa.txt++[93])∧((⟨#[91]⟩:ByteArray)++p++⟨#[93]⟩).size≤65538):=ab (fun _=>⟨by rw[hp];exact BR _,by
      rw[wn,wn];have e1:(⟨#[91]⟩:ByteArray).size=1:=rfl;have e2:(⟨#[93]⟩:ByteArray).size=1:=rfl;omega⟩)
     rw[←hp] at mi;clear hs hl jb h m0 m1 m2 m3 m4 iS n7 jN hp;go_wp2_with fail;refine(aa mi).mono ?_;rintro e w3 ⟨rfl,hb3⟩;have aq:=ab ((aa aF).trans (hb3.mono (aa aF).size));have cY:=ab (am (aa cR) hb3);clear hb3 g0 g1 g2 g3 g4 c1;obtain⟨zw,jJ⟩:∃zw,zw=w3.alloc (.cells #[.slice none 0 0,.bool false] 59):=⟨_,rfl⟩;have jK:Below w3.heap.size w3 zw:=by rw[jJ];exact ba _
     have nh:WrI (w3.heap.size+1) w3.heap.size zw (.slice none 0 0) [] false:=by
      refine⟨by rw[jJ];exact aw rfl,m8 _ _ _ _,by omega,by rw[jJ];simp⟩
     have fw:=ab (zD S ((⟨#[91]⟩:ByteArray)++p++⟨#[93]⟩) ((aa oY).env.later (aa aq)) jK (ax _) nh ((aa je).later (aa aq)) (aa mg) (aa mj) (by decide))
     rw[aa gz] at fw;have qg:=ab (ap (aa aq) jK);have wH:=ab (am (aa cY) jK);have qX:Hid (w3.alloc (.cells #[.slice none 0 0,.bool false] 59)=zw):=ab (jJ.symm);have HZB:=ab jK;have HZI:=ab nh;clear jJ jK nh;go_wp2_with (first
      | (refine gG rfl 30 _ rfl w.heap.size rfl 30 C (0,0) _ (by rw[aa qX];exact aa wH) underlying30 rfl (pA.trans (by rw[aa dL])) ?_)
      | fail)
     rw[aa qX];refine(aa fw).mono ?_;rintro e w9 ⟨rfl,v9,o9,n8,ic,qO⟩;have ij:Hid (Below w.heap.size w w9):=ab ((aa aq).trans ((WX.bel (aa HZB) (aa HZI) (ax _) n8).mono (aa aq).size));obtain⟨xa,cp,oM⟩:=sH ic.row;subst oM;have c0:=ic.c0;have c1:=ic.c1;have hcv:=xX ic.row;have HG:=ab qO;rw[xF] at c1;clear n8 ic qO fw
     cases fM:eN (ar (cj S))
     ·rw[fM] at c1
      have HA:=aa mQ;rw[ac (by rw[fM];decide)] at HA
      by_cases hl:2000 < (ar (cj S)).length
      ·have q:=(aa HG).long hl
       have q2:(2000:Int) < (o9.length:Int):=by omega
       rw[af hl] at HA;have HA:=ab HA;clear hl q fM;go_wp2_with fail;go_ret2;exact⟨by unfold iW;rw[aa HA];rfl,aa ij⟩
      ·have q:=(aa HG).same (by rw[List.nil_append];omega)
       rw[List.nil_append] at q;have q2:¬(2000:Int) < (o9.length:Int):=by rw[q];omega
       rw[ac hl] at HA;have HA:=ab HA;have HQ:=ab q;clear hl q fM;go_wp2_with fail;go_ret2;exact⟨by unfold iW;rw[aa HA,aa HQ];rfl,aa ij⟩
     ·rw[fM] at c1
      have HA:=aa mQ;rw[af fM] at HA;have HA:=ab HA;clear fM;go_wp2_with fail;go_ret2;exact⟨by unfold iW;rw[aa HA];rfl,aa ij⟩
   ·have jb:S.k=4∨S.k=5∨S.k=6:=.inr (.inr h)
    rw[h] at c1;obtain⟨m0,m1,m2,m3,m4⟩:=aa HPAT;have g0:=bE (aa cR) m0;have g1:=bE (aa cR) m1;have g2:=bE (aa cR) m2;have g3:=bE (aa cR) m3;have g4:=bE (aa cR) m4;have iS:=Be (aa mg) jb;have mi:=ab (aa jN w2 (aa aF))
    by_cases hl:65536 < S.pa.txt.length
    ·have hs:kD S.pa=.tuple #[.string ⟨#[]⟩,.int .i64 4]:=by unfold kD;rw[af iS,af hl]
     rw[hs] at mi;have HA:=ab ((aa n7).trans (af ⟨jb,hl⟩));clear hs hl jb h m0 m1 m2 m3 m4 iS n7 jN;go_wp2_with fail;refine(aa mi).mono ?_;rintro e w3 ⟨rfl,hb3⟩;have aq:=ab ((aa aF).trans (hb3.mono (aa aF).size));clear hb3;go_wp2_with fail;go_ret2;exact⟨by unfold iW;rw[aa HA];rfl,aa aq⟩
    ·have hs:kD S.pa=.tuple #[.string ⟨S.pa.txt.toArray⟩,.int .i64 0]:=by unfold kD;rw[af iS,ac hl]
     rw[hs] at mi;have mQ:=ab ((aa n7).trans (ac (fun q=>hl q.2)))
     obtain⟨p,hp⟩:∃p:ByteArray,p=⟨S.pa.txt.toArray⟩:=⟨_,rfl⟩;have mK:p.size≤65536:=by rw[hp];show S.pa.txt.toArray.size≤65536;rw[wo];omega
     have mj:Hid (S.k=4∨S.k=5∨S.k=6→((⟨#[91]⟩:ByteArray)++p++⟨#[93]⟩).data.toList=91::(S.pa.txt++[93])∧((⟨#[91]⟩:ByteArray)++p++⟨#[93]⟩).size≤65538):=ab (fun _=>⟨by rw[hp];exact BR _,by
      rw[wn,wn];have e1:(⟨#[91]⟩:ByteArray).size=1:=rfl;have e2:(⟨#[93]⟩:ByteArray).size=1:=rfl;omega⟩)
     rw[←hp] at mi;clear hs hl jb h m0 m1 m2 m3 m4 iS n7 jN hp;go_wp2_with fail;refine(aa mi).mono ?_;rintro e w3 ⟨rfl,hb3⟩;have aq:=ab ((aa aF).trans (hb3.mono (aa aF).size));have cY:=ab (am (aa cR) hb3);clear hb3 g0 g1 g2 g3 g4 c1;obtain⟨zw,jJ⟩:∃zw,zw=w3.alloc (.cells #[.slice none 0 0,.bool false] 59):=⟨_,rfl⟩;have jK:Below w3.heap.size w3 zw:=by rw[jJ];exact ba _
     have nh:WrI (w3.heap.size+1) w3.heap.size zw (.slice none 0 0) [] false:=by
      refine⟨by rw[jJ];exact aw rfl,m8 _ _ _ _,by omega,by rw[jJ];simp⟩
     have fw:=ab (zD S ((⟨#[91]⟩:ByteArray)++p++⟨#[93]⟩) ((aa oY).env.later (aa aq)) jK (ax _) nh ((aa je).later (aa aq)) (aa mg) (aa mj) (by decide))
     rw[aa gz] at fw;have qg:=ab (ap (aa aq) jK);have wH:=ab (am (aa cY) jK);have qX:Hid (w3.alloc (.cells #[.slice none 0 0,.bool false] 59)=zw):=ab (jJ.symm);have HZB:=ab jK;have HZI:=ab nh;clear jJ jK nh;go_wp2_with (first
      | (refine gG rfl 30 _ rfl w.heap.size rfl 30 C (0,0) _ (by rw[aa qX];exact aa wH) underlying30 rfl (pA.trans (by rw[aa dL])) ?_)
      | fail)
     rw[aa qX];refine(aa fw).mono ?_;rintro e w9 ⟨rfl,v9,o9,n8,ic,qO⟩;have ij:Hid (Below w.heap.size w w9):=ab ((aa aq).trans ((WX.bel (aa HZB) (aa HZI) (ax _) n8).mono (aa aq).size));obtain⟨xa,cp,oM⟩:=sH ic.row;subst oM;have c0:=ic.c0;have c1:=ic.c1;have hcv:=xX ic.row;have HG:=ab qO;rw[xF] at c1;clear n8 ic qO fw
     cases fM:eN (ar (cj S))
     ·rw[fM] at c1
      have HA:=aa mQ;rw[ac (by rw[fM];decide)] at HA
      by_cases hl:2000 < (ar (cj S)).length
      ·have q:=(aa HG).long hl
       have q2:(2000:Int) < (o9.length:Int):=by omega
       rw[af hl] at HA;have HA:=ab HA;clear hl q fM;go_wp2_with fail;go_ret2;exact⟨by unfold iW;rw[aa HA];rfl,aa ij⟩
      ·have q:=(aa HG).same (by rw[List.nil_append];omega)
       rw[List.nil_append] at q;have q2:¬(2000:Int) < (o9.length:Int):=by rw[q];omega
       rw[ac hl] at HA;have HA:=ab HA;have HQ:=ab q;clear hl q fM;go_wp2_with fail;go_ret2;exact⟨by unfold iW;rw[aa HA,aa HQ];rfl,aa ij⟩
     ·rw[fM] at c1
      have HA:=aa mQ;rw[af fM] at HA;have HA:=ab HA;clear fM;go_wp2_with fail;go_ret2;exact⟨by unfold iW;rw[aa HA];rfl,aa ij⟩
  ·have r4:(S.k==4)=false:=bn
   have r5:(S.k==5)=false:=bn;have r6:(S.k==6)=false:=bn;have mQ:=ab ((aa n7).trans (ac (fun q=>jb q.1)))
   have mj:Hid (S.k=4∨S.k=5∨S.k=6→(⟨#[]⟩:ByteArray).data.toList=91::(S.pa.txt++[93])∧(⟨#[]⟩:ByteArray).size≤65538):=ab (fun q=>absurd q jb)
   clear jb n7 jN;obtain⟨zw,jJ⟩:∃zw,zw=w2.alloc (.cells #[.slice none 0 0,.bool false] 59):=⟨_,rfl⟩;have jK:Below w2.heap.size w2 zw:=by rw[jJ];exact ba _
   have nh:WrI (w2.heap.size+1) w2.heap.size zw (.slice none 0 0) [] false:=by
    refine⟨by rw[jJ];exact aw rfl,m8 _ _ _ _,by omega,by rw[jJ];simp⟩
   have fw:=ab (zD S ⟨#[]⟩ ((aa oY).env.later (aa aF)) jK (ax _) nh ((aa je).later (aa aF)) (aa mg) (aa mj) (by decide))
   rw[aa gz] at fw;have qg:=ab (ap (aa aF) jK);have wH:=ab (am (aa cR) jK);have qX:Hid (w2.alloc (.cells #[.slice none 0 0,.bool false] 59)=zw):=ab (jJ.symm);have HZB:=ab jK;have HZI:=ab nh;clear jJ jK nh;go_wp2_with (first
    | (refine gG rfl 30 _ rfl w.heap.size rfl 30 C (0,0) _ (by rw[aa qX];exact aa wH) underlying30 rfl (pA.trans (by rw[aa dL])) ?_)
    | fail)
   rw[aa qX];refine(aa fw).mono ?_;rintro e w9 ⟨rfl,v9,o9,n8,ic,qO⟩;have ij:Hid (Below w.heap.size w w9):=ab ((aa aF).trans ((WX.bel (aa HZB) (aa HZI) (ax _) n8).mono (aa aF).size));obtain⟨xa,cp,oM⟩:=sH ic.row;subst oM;have c0:=ic.c0;have c1:=ic.c1;have hcv:=xX ic.row;have HG:=ab qO;rw[xF] at c1;clear n8 ic qO fw
   cases fM:eN (ar (cj S))
   ·rw[fM] at c1
    have HA:=aa mQ;rw[ac (by rw[fM];decide)] at HA
    by_cases hl:2000 < (ar (cj S)).length
    ·have q:=(aa HG).long hl
     have q2:(2000:Int) < (o9.length:Int):=by omega
     rw[af hl] at HA;have HA:=ab HA;clear hl q fM;go_wp2_with fail;go_ret2;exact⟨by unfold iW;rw[aa HA];rfl,aa ij⟩
    ·have q:=(aa HG).same (by rw[List.nil_append];omega)
     rw[List.nil_append] at q;have q2:¬(2000:Int) < (o9.length:Int):=by rw[q];omega
     rw[ac hl] at HA;have HA:=ab HA;have HQ:=ab q;clear hl q fM;go_wp2_with fail;go_ret2;exact⟨by unfold iW;rw[aa HA,aa HQ];rfl,aa ij⟩
   ·rw[fM] at c1
    have HA:=aa mQ;rw[af fM] at HA;have HA:=ab HA;clear fM;go_wp2_with fail;go_ret2;exact⟨by unfold iW;rw[aa HA];rfl,aa ij⟩
 ·have q0:(S.wrong !=0)=true:=by simp;exact hw
  have HA:Hid (iy S=(ByteArray.empty,S.wrong)):=ab ((aa tY).trans (af hw));clear hw;go_wp2_with fail;go_ret2;exact⟨by unfold iW;rw[aa HA];rfl,aa aF⟩
end Go.Proofs.YtlmnjbipfacniaaGreatDoor
