/- What pats.appendPat and Print do, for every right pattern. W -/
import Derived.Test.YtlmnjbipfacniaaGreatDoorPrintReg5Ms
import Derived.Lib.LaidTab
import Derived.Test.YtlmnjbipfacniaaGreatDoorRegionInvMs
set_option maxRecDepth 100000
set_option maxHeartbeats 8000000
namespace Go.Proofs.YtlmnjbipfacniaaGreatDoor
open Go.Proofs.Tryz
open Go.RowKit
set_option linter.unusedVariables false
theorem rK {w:World} {B:Nat} {v:Value} {l:List UInt8} (h:aZ w B v l) (W:World):(Builtin.len_ #[48] 3 #[v]).run prog W=.ok (.int .i64 (l.length:Int)) W:=by
 rcases h.2 with ⟨rfl,h0⟩ | ⟨g,cap,cur,rfl,_,_,_,_,_,_⟩
 ·rw[h0];go_simp
 ·go_simp
theorem Ik (T:PT) (ih:∀i,i < T.len→oN (T.kid i)) (W w:World) (v:Value) (l:List UInt8) (hR:Ready W) (hT:T.In W) (bz:Below W.heap.size W w) (aA:T.bad=0) (hv:aZ w W.heap.size v l) (hl:l.length≤65536) (hk:T.k≠1∧T.k≠18∧T.k≠19∧T.k≠21∧T.k≠22∧T.k≠23∧T.k≠24) (hN:max l.length 196700+30 * T.cnt≤10000000) (h4:T.cnt≤4096):
  Calls prog 78 #[v,.agg #[.int .i64 T.k,.string T.t,.int .i64 T.n,.string T.nm,.slice T.xa T.len T.cap]] w fun e w'=>mt W w v l T.txt (30 * T.cnt - 10) e w':=by
 obtain⟨r1,r2, -, -, -,r6, -⟩:=jo (fG aA).1;rcases (show T.k=20∨(12≤T.k∧T.k≤17)∨(T.k=2∨8≤T.k∧T.k≤11)∨(3≤T.k∧T.k≤7) by omega) with q | q | q | q
 ·have bU:0 < T.len:=by
   have h6:cK T.k=1:=by unfold cK;rw[ac (by omega),af (by omega)]
   omega
  exact Kl T W w v l hR hT bz aA hv hl (by unfold aO;rw[ac (by omega),ac (by omega),ac (by omega)]) q (ih 0 bU) hN h4
 ·exact Jd T W w v l hR hT bz aA hv hl (by unfold aO;rw[ac (by omega),ac (by omega),ac (by omega)]) q
 ·exact Kk T W w v l hR hT bz aA hv hl (by unfold aO;rw[ac (by omega),af (by omega)]) q
 ·exact Kj T W w v l hR hT bz aA hv hl (by unfold aO;rw[af (by omega)]) q
theorem KX (T:PT) (ih:∀i,i < T.len→oN (T.kid i)) (W w:World) (v:Value) (l:List UInt8) (hR:Ready W) (hT:T.In W) (bz:Below W.heap.size W w) (aA:T.bad=0) (hv:aZ w W.heap.size v l) (hN:max l.length 196700+30 * T.cnt≤10000000) (h4:T.cnt≤4096) (hl:65536 < l.length) (h0:True):
  Calls prog 41 #[v,.agg #[.int .i64 T.k,.string T.t,.int .i64 T.n,.string T.nm,.slice T.xa T.len T.cap]] w fun e w'=>mt W w v l T.txt (30 * T.cnt - 10) e w':=by
 obtain⟨r1,r2,r3,r4,r5,r6,r7⟩:=jo (fG aA).1;have fo:=PT.txt_eq r1;have iT:=T.cnt_pos;have bU:=rK hv;have aF:=ab ((aV w.heap.size w).alloc (aw _) (.cells #[.int .i64 T.k,.string T.t,.int .i64 T.n,.string T.nm,.slice T.xa T.len T.cap] 27));have eb:Hid ((w.alloc (.cells #[.int .i64 T.k,.string T.t,.int .i64 T.n,.string T.nm,.slice T.xa T.len T.cap] 27)).heap[w.heap.size]? =some (kA T.k T)):=ab (ax rfl);have ii:=ab (hv.apart (aw _));have ji:=ab (hv.later (aa aF));have fE:=ab (aq bz (aa aF));have gP:(65536:Int) < (l.length:Int):=by omega
 clear fo r1 r2 r3 r4 r5 r6 r7;go_enter func41,ntmps41;go_wp2_with fail;go_ret;exact⟨_,l,rfl,aa ji,Ext.below v (aa aF),aa fE,(Grew.gave l _ hl).more (by omega)⟩
theorem Mv (T:PT) (ih:∀i,i < T.len→oN (T.kid i)) (W w:World) (v:Value) (l:List UInt8) (hR:Ready W) (hT:T.In W) (bz:Below W.heap.size W w) (aA:T.bad=0) (hv:aZ w W.heap.size v l) (hN:max l.length 196700+30 * T.cnt≤10000000) (h4:T.cnt≤4096) (hl:l.length≤65536) (hk:T.k=1):
  Calls prog 41 #[v,.agg #[.int .i64 T.k,.string T.t,.int .i64 T.n,.string T.nm,.slice T.xa T.len T.cap]] w fun e w'=>mt W w v l T.txt (30 * T.cnt - 10) e w':=by
 obtain⟨r1,r2,r3,r4,r5,r6,r7⟩:=jo (fG aA).1;have fo:=PT.txt_eq r1;have iT:=T.cnt_pos;have bU:=rK hv;have aF:=ab ((aV w.heap.size w).alloc (aw _) (.cells #[.int .i64 T.k,.string T.t,.int .i64 T.n,.string T.nm,.slice T.xa T.len T.cap] 27));have eb:Hid ((w.alloc (.cells #[.int .i64 T.k,.string T.t,.int .i64 T.n,.string T.nm,.slice T.xa T.len T.cap] 27)).heap[w.heap.size]? =some (kA T.k T)):=ab (ax rfl);have ii:=ab (hv.apart (aw _));have ji:=ab (hv.later (aa aF));have fE:=ab (aq bz (aa aF));have e1:(T.k==1)=true:=bt;have e18:(T.k==18)=false:=bn;have e19:(T.k==19)=false:=bn;have e21:(T.k==21)=false:=bn;have vt:(T.k==22)=false:=bn;have e23:(T.k==23)=false:=bn;have e24:(T.k==24)=false:=bn;have gP:¬(65536:Int) < (l.length:Int):=by omega
 have iQ:=r3 (by unfold aO;rw[af (by omega)])
 have hqs:=AQ T.t iQ;have HT:Hid (T.txt=(fI T.t).data.toList):=ab (by rw[fo,af hk];rfl)
 obtain⟨mm,qn⟩:=hR.lim;have HQ:=ab (A2 T.t _ iQ mm (av (aa fE) qn));clear fo r1 r2 r3 r4 r5 r6 r7 hk;go_enter func41,ntmps41;go_wp2_with (first | (go_at_call 76;refine(aa HQ).mono ?_;rintro e w1 ⟨rfl,hb1⟩;have aX:=ab hb1;clear hb1) | (at_builtin;refine rL rfl _ _ rfl W.heap.size _ l (fI T.t) rfl rfl (by exact(aa ji).later (aa aX)) (by exact bv (aa fE).size (aa aX).size) (by omega) ?_;intro v1 w1' gC cW))
 go_ret;have hql:(fI T.t).data.toList.length=(fI T.t).size:=by simp
 exact⟨_,_,rfl,gC,((Ext.below v (aa aF)).trans (Ext.below v (aa aX))).trans cW,(aq (aa fE) (aa aX)).trans (cW.bel ((aa ji).later (aa aX)) (bv (aa fE).size (aa aX).size)),((Grew.leaf l _ hl (by omega)).cast (aa HT).symm).more (by omega)⟩
theorem Mz (T:PT) (ih:∀i,i < T.len→oN (T.kid i)) (W w:World) (v:Value) (l:List UInt8) (hR:Ready W) (hT:T.In W) (bz:Below W.heap.size W w) (aA:T.bad=0) (hv:aZ w W.heap.size v l) (hN:max l.length 196700+30 * T.cnt≤10000000) (h4:T.cnt≤4096) (hl:l.length≤65536) (hk:T.k=18):
  Calls prog 41 #[v,.agg #[.int .i64 T.k,.string T.t,.int .i64 T.n,.string T.nm,.slice T.xa T.len T.cap]] w fun e w'=>mt W w v l T.txt (30 * T.cnt - 10) e w':=by
 obtain⟨r1,r2,r3,r4,r5,r6,r7⟩:=jo (fG aA).1;have fo:=PT.txt_eq r1;have iT:=T.cnt_pos;have bU:=rK hv;have aF:=ab ((aV w.heap.size w).alloc (aw _) (.cells #[.int .i64 T.k,.string T.t,.int .i64 T.n,.string T.nm,.slice T.xa T.len T.cap] 27));have eb:Hid ((w.alloc (.cells #[.int .i64 T.k,.string T.t,.int .i64 T.n,.string T.nm,.slice T.xa T.len T.cap] 27)).heap[w.heap.size]? =some (kA T.k T)):=ab (ax rfl);have ii:=ab (hv.apart (aw _));have ji:=ab (hv.later (aa aF));have fE:=ab (aq bz (aa aF));have e1:(T.k==1)=false:=bn;have e18:(T.k==18)=true:=bt;have e19:(T.k==19)=false:=bn;have e21:(T.k==21)=false:=bn;have vt:(T.k==22)=false:=bn;have e23:(T.k==23)=false:=bn;have e24:(T.k==24)=false:=bn;have gP:¬(65536:Int) < (l.length:Int):=by omega
 have HT:Hid (T.txt=iy [32] T.kidT T.len):=ab (by rw[fo,ac (by omega),af hk])
 have HC:=ab (T.cnt_eq);have HK:=ab (zs T ih ⟨#[32]⟩ (by decide) W _ v l hR hT (aa fE) aA (aa ji) (by omega) h4)
 clear fo r1 r2 r3 r4 r5 r6 r7 hk;go_enter func41,ntmps41;go_wp2_with fail;refine(aa HK).mono ?_;rintro e w1 ⟨v1,r1',rfl,hb1,cW,mg,mP⟩;have eP:=ab (And.intro hb1 (And.intro cW (And.intro mg mP)));clear hb1 cW mg mP;go_wp2_with fail;go_ret;obtain⟨hb1,cW,mg,mP⟩:=aa eP;exact⟨_,_,rfl,hb1,(Ext.below v (aa aF)).trans cW,mg,(mP.cast (by rw[aa HT])).more (by have:=aa HC;omega)⟩
theorem MD (T:PT) (ih:∀i,i < T.len→oN (T.kid i)) (W w:World) (v:Value) (l:List UInt8) (hR:Ready W) (hT:T.In W) (bz:Below W.heap.size W w) (aA:T.bad=0) (hv:aZ w W.heap.size v l) (hN:max l.length 196700+30 * T.cnt≤10000000) (h4:T.cnt≤4096) (hl:l.length≤65536) (hk:T.k=19):
  Calls prog 41 #[v,.agg #[.int .i64 T.k,.string T.t,.int .i64 T.n,.string T.nm,.slice T.xa T.len T.cap]] w fun e w'=>mt W w v l T.txt (30 * T.cnt - 10) e w':=by
 obtain⟨r1,r2,r3,r4,r5,r6,r7⟩:=jo (fG aA).1;have fo:=PT.txt_eq r1;have iT:=T.cnt_pos;have bU:=rK hv;have aF:=ab ((aV w.heap.size w).alloc (aw _) (.cells #[.int .i64 T.k,.string T.t,.int .i64 T.n,.string T.nm,.slice T.xa T.len T.cap] 27));have eb:Hid ((w.alloc (.cells #[.int .i64 T.k,.string T.t,.int .i64 T.n,.string T.nm,.slice T.xa T.len T.cap] 27)).heap[w.heap.size]? =some (kA T.k T)):=ab (ax rfl);have ii:=ab (hv.apart (aw _));have ji:=ab (hv.later (aa aF));have fE:=ab (aq bz (aa aF));have e1:(T.k==1)=false:=bn;have e18:(T.k==18)=false:=bn;have e19:(T.k==19)=true:=bt;have e21:(T.k==21)=false:=bn;have vt:(T.k==22)=false:=bn;have e23:(T.k==23)=false:=bn;have e24:(T.k==24)=false:=bn;have gP:¬(65536:Int) < (l.length:Int):=by omega
 have HT:Hid (T.txt=iy [32,124,32] T.kidT T.len):=ab (by rw[fo,ac (by omega),ac (by omega),af hk])
 have HC:=ab (T.cnt_eq);have HK:=ab (zs T ih ⟨#[32,124,32]⟩ (by decide) W _ v l hR hT (aa fE) aA (aa ji) (by omega) h4)
 clear fo r1 r2 r3 r4 r5 r6 r7 hk;go_enter func41,ntmps41;go_wp2_with fail;refine(aa HK).mono ?_;rintro e w1 ⟨v1,r1',rfl,hb1,cW,mg,mP⟩;have eP:=ab (And.intro hb1 (And.intro cW (And.intro mg mP)));clear hb1 cW mg mP;go_wp2_with fail;go_ret;obtain⟨hb1,cW,mg,mP⟩:=aa eP;exact⟨_,_,rfl,hb1,(Ext.below v (aa aF)).trans cW,mg,(mP.cast (by rw[aa HT])).more (by have:=aa HC;omega)⟩
theorem My (T:PT) (ih:∀i,i < T.len→oN (T.kid i)) (W w:World) (v:Value) (l:List UInt8) (hR:Ready W) (hT:T.In W) (bz:Below W.heap.size W w) (aA:T.bad=0) (hv:aZ w W.heap.size v l) (hN:max l.length 196700+30 * T.cnt≤10000000) (h4:T.cnt≤4096) (hl:l.length≤65536) (hk:T.k=21):
  Calls prog 41 #[v,.agg #[.int .i64 T.k,.string T.t,.int .i64 T.n,.string T.nm,.slice T.xa T.len T.cap]] w fun e w'=>mt W w v l T.txt (30 * T.cnt - 10) e w':=by
 obtain⟨r1,r2,r3,r4,r5,r6,r7⟩:=jo (fG aA).1;have fo:=PT.txt_eq r1;have iT:=T.cnt_pos;have bU:=rK hv;have aF:=ab ((aV w.heap.size w).alloc (aw _) (.cells #[.int .i64 T.k,.string T.t,.int .i64 T.n,.string T.nm,.slice T.xa T.len T.cap] 27));have eb:Hid ((w.alloc (.cells #[.int .i64 T.k,.string T.t,.int .i64 T.n,.string T.nm,.slice T.xa T.len T.cap] 27)).heap[w.heap.size]? =some (kA T.k T)):=ab (ax rfl);have ii:=ab (hv.apart (aw _));have ji:=ab (hv.later (aa aF));have fE:=ab (aq bz (aa aF));have e1:(T.k==1)=false:=bn;have e18:(T.k==18)=false:=bn;have e19:(T.k==19)=false:=bn;have e21:(T.k==21)=true:=bt;have vt:(T.k==22)=false:=bn;have e23:(T.k==23)=false:=bn;have e24:(T.k==24)=false:=bn;have gP:¬(65536:Int) < (l.length:Int):=by omega
 have bX:T.nm.size≤16:=ze (fG aA).1 (by omega)
 have HT:Hid (T.txt=iy [] T.kidT T.len++[32,46,32]++T.nm.data.toList):=ab (by rw[fo,ac (by omega),ac (by omega),ac (by omega),af hk])
 have HC:=ab (T.cnt_eq);have HKS:=ab (fun w1 (hb:Below W.heap.size W w1) (gC:aZ w1 W.heap.size v l)=>zs T ih ⟨#[]⟩ (by decide) W w1 v l hR hT hb aA gC (by omega) h4)
 clear fo r1 r2 r3 r4 r5 r6 r7 hk;go_enter func41,ntmps41;go_wp2_with fail;refine I7 (B:=W.heap.size) (r:=l) (bx:=w.heap.size) (row:=kA T.k T) (nm:=T.nm) (pat:=.agg #[.int .i64 T.k,.string T.t,.int .i64 T.n,.string T.nm,.slice T.xa T.len T.cap]) (M:=fun l2=>Grew l (iy [] T.kidT T.len) l2 (30 * fy (fun i=>(T.kid i).cnt) T.len)) bZ bZ bZ bZ bZ bZ bZ bZ rfl rfl rfl (aa ji) (aa fE).size (by omega) rfl (aa eb) (aa ii) bX (fun W=>wi _ 3 (by omega) W) (fun W hW=>yp (lC hW).2.2.2.1) (fun W hW=>by
   obtain⟨k0,k1,k2,k3,k4⟩:=lC hW;exact B3 k0 k1 k2 k3 k4) (fun l2 h2=>by have:=h2.most;have:=aa HC;omega) (fun w3 hb3 qr=>(aa HKS w3 ((aa fE).trans (qr.bel (aa ji) (aa fE).size)) hb3).mono fun e w4 h=>by
   obtain⟨v4,r4',rfl,q1,q2,q3,q4⟩:=h;exact⟨v4,rfl,r4',q1,q2,q4⟩) ?_
 intro x w2 v2 l2 hb2 eI he2 cv;have j9:=ab (And.intro hb2 (And.intro eI he2));clear hb2 eI he2;simp only[fl];go_frame;rw[cv];clear cv;go_wp2_with fail;go_ret;obtain⟨hb2,eI,he2⟩:=aa j9;obtain⟨l0,hg,rfl⟩:=eI;have fC:T.nm.data.toList.length=T.nm.size:=by simp
 have hC:=aa HC;exact⟨_,_,rfl,hb2,(Ext.below v (aa aF)).trans he2,(aa fE).trans (he2.bel (aa ji) (aa fE).size),(((hg.trans (Grew.put l0 [32,46,32])).trans (Grew.put _ T.nm.data.toList)).cast (aa HT).symm).more (by simp only[List.length_cons,List.length_nil];omega)⟩
theorem Mw (T:PT) (ih:∀i,i < T.len→oN (T.kid i)) (W w:World) (v:Value) (l:List UInt8) (hR:Ready W) (hT:T.In W) (bz:Below W.heap.size W w) (aA:T.bad=0) (hv:aZ w W.heap.size v l) (hN:max l.length 196700+30 * T.cnt≤10000000) (h4:T.cnt≤4096) (hl:l.length≤65536) (hk:T.k=22):
  Calls prog 41 #[v,.agg #[.int .i64 T.k,.string T.t,.int .i64 T.n,.string T.nm,.slice T.xa T.len T.cap]] w fun e w'=>mt W w v l T.txt (30 * T.cnt - 10) e w':=by
 obtain⟨r1,r2,r3,r4,r5,r6,r7⟩:=jo (fG aA).1;have fo:=PT.txt_eq r1;have iT:=T.cnt_pos;have bU:=rK hv;have aF:=ab ((aV w.heap.size w).alloc (aw _) (.cells #[.int .i64 T.k,.string T.t,.int .i64 T.n,.string T.nm,.slice T.xa T.len T.cap] 27));have eb:Hid ((w.alloc (.cells #[.int .i64 T.k,.string T.t,.int .i64 T.n,.string T.nm,.slice T.xa T.len T.cap] 27)).heap[w.heap.size]? =some (kA T.k T)):=ab (ax rfl);have ii:=ab (hv.apart (aw _));have ji:=ab (hv.later (aa aF));have fE:=ab (aq bz (aa aF));have e1:(T.k==1)=false:=bn;have e18:(T.k==18)=false:=bn;have e19:(T.k==19)=false:=bn;have e21:(T.k==21)=false:=bn;have vt:(T.k==22)=true:=bt;have e23:(T.k==23)=false:=bn;have e24:(T.k==24)=false:=bn;have gP:¬(65536:Int) < (l.length:Int):=by omega
 have bX:T.nm.size≤16:=ze (fG aA).1 (by omega)
 have HT:Hid (T.txt=iy [] T.kidT T.len++[32,36,32]++T.nm.data.toList):=ab (by rw[fo,ac (by omega),ac (by omega),ac (by omega),ac (by omega),af hk])
 have HC:=ab (T.cnt_eq);have HKS:=ab (fun w1 (hb:Below W.heap.size W w1) (gC:aZ w1 W.heap.size v l)=>zs T ih ⟨#[]⟩ (by decide) W w1 v l hR hT hb aA gC (by omega) h4)
 clear fo r1 r2 r3 r4 r5 r6 r7 hk;go_enter func41,ntmps41;go_wp2_with fail;refine I3 (B:=W.heap.size) (r:=l) (bx:=w.heap.size) (row:=kA T.k T) (nm:=T.nm) (pat:=.agg #[.int .i64 T.k,.string T.t,.int .i64 T.n,.string T.nm,.slice T.xa T.len T.cap]) (M:=fun l2=>Grew l (iy [] T.kidT T.len) l2 (30 * fy (fun i=>(T.kid i).cnt) T.len)) bZ bZ bZ bZ bZ bZ bZ bZ rfl rfl rfl (aa ji) (aa fE).size (by omega) rfl (aa eb) (aa ii) bX (fun W=>wi _ 3 (by omega) W) (fun W hW=>yp (lC hW).2.2.2.1) (fun W hW=>by
   obtain⟨k0,k1,k2,k3,k4⟩:=lC hW;exact B3 k0 k1 k2 k3 k4) (fun l2 h2=>by have:=h2.most;have:=aa HC;omega) (fun w3 hb3 qr=>(aa HKS w3 ((aa fE).trans (qr.bel (aa ji) (aa fE).size)) hb3).mono fun e w4 h=>by
   obtain⟨v4,r4',rfl,q1,q2,q3,q4⟩:=h;exact⟨v4,rfl,r4',q1,q2,q4⟩) ?_
 intro x w2 v2 l2 hb2 eI he2 cv;have j9:=ab (And.intro hb2 (And.intro eI he2));clear hb2 eI he2;simp only[fl];go_frame;rw[cv];clear cv;go_wp2_with fail;go_ret;obtain⟨hb2,eI,he2⟩:=aa j9;obtain⟨l0,hg,rfl⟩:=eI;have fC:T.nm.data.toList.length=T.nm.size:=by simp
 have hC:=aa HC;exact⟨_,_,rfl,hb2,(Ext.below v (aa aF)).trans he2,(aa fE).trans (he2.bel (aa ji) (aa fE).size),(((hg.trans (Grew.put l0 [32,36,32])).trans (Grew.put _ T.nm.data.toList)).cast (aa HT).symm).more (by simp only[List.length_cons,List.length_nil];omega)⟩
theorem Mx (T:PT) (ih:∀i,i < T.len→oN (T.kid i)) (W w:World) (v:Value) (l:List UInt8) (hR:Ready W) (hT:T.In W) (bz:Below W.heap.size W w) (aA:T.bad=0) (hv:aZ w W.heap.size v l) (hN:max l.length 196700+30 * T.cnt≤10000000) (h4:T.cnt≤4096) (hl:l.length≤65536) (hk:T.k=23):
  Calls prog 41 #[v,.agg #[.int .i64 T.k,.string T.t,.int .i64 T.n,.string T.nm,.slice T.xa T.len T.cap]] w fun e w'=>mt W w v l T.txt (30 * T.cnt - 10) e w':=by
 obtain⟨r1,r2,r3,r4,r5,r6,r7⟩:=jo (fG aA).1;have fo:=PT.txt_eq r1;have iT:=T.cnt_pos;have bU:=rK hv;have aF:=ab ((aV w.heap.size w).alloc (aw _) (.cells #[.int .i64 T.k,.string T.t,.int .i64 T.n,.string T.nm,.slice T.xa T.len T.cap] 27));have eb:Hid ((w.alloc (.cells #[.int .i64 T.k,.string T.t,.int .i64 T.n,.string T.nm,.slice T.xa T.len T.cap] 27)).heap[w.heap.size]? =some (kA T.k T)):=ab (ax rfl);have ii:=ab (hv.apart (aw _));have ji:=ab (hv.later (aa aF));have fE:=ab (aq bz (aa aF));have e1:(T.k==1)=false:=bn;have e18:(T.k==18)=false:=bn;have e19:(T.k==19)=false:=bn;have e21:(T.k==21)=false:=bn;have vt:(T.k==22)=false:=bn;have e23:(T.k==23)=true:=bt;have e24:(T.k==24)=false:=bn;have gP:¬(65536:Int) < (l.length:Int):=by omega
 have bX:T.nm.size≤16:=ze (fG aA).1 (by omega)
 have HT:Hid (T.txt=64::T.nm.data.toList):=ab (by rw[fo,ac (by omega),ac (by omega),ac (by omega),ac (by omega),ac (by omega),af hk])
 clear fo r1 r2 r3 r4 r5 r6 r7 hk;go_enter func41,ntmps41;go_wp2_with fail;refine I6 (B:=W.heap.size) (r:=l) (bx:=w.heap.size) (row:=kA T.k T) (nm:=T.nm) bZ bZ bZ bZ bZ bZ bZ rfl rfl rfl (aa ji) (aa fE).size (by omega) rfl (aa eb) (aa ii) bX (fun W=>wi _ 3 (by omega) W) (fun W hW=>yp (lC hW).2.2.2.1) ?_
 intro x w2 v2 l2 hb2 eI he2 cv;have j9:=ab (And.intro hb2 (And.intro eI he2));clear hb2 eI he2;simp only[fl];go_frame;rw[cv];clear cv;go_wp2_with fail;go_ret;obtain⟨hb2,eI,he2⟩:=aa j9;have eI:l2=l++[64]++T.nm.data.toList:=eI;subst eI;have fC:T.nm.data.toList.length=T.nm.size:=by simp
 exact⟨_,_,rfl,hb2,(Ext.below v (aa aF)).trans he2,(aa fE).trans (he2.bel (aa ji) (aa fE).size),(((Grew.leaf l (64::T.nm.data.toList) hl (by simp only[List.length_cons];omega)).cast (aa HT).symm).more (by omega)).ret (by simp)⟩
theorem MA (T:PT) (ih:∀i,i < T.len→oN (T.kid i)) (W w:World) (v:Value) (l:List UInt8) (hR:Ready W) (hT:T.In W) (bz:Below W.heap.size W w) (aA:T.bad=0) (hv:aZ w W.heap.size v l) (hN:max l.length 196700+30 * T.cnt≤10000000) (h4:T.cnt≤4096) (hl:l.length≤65536) (hk:T.k=24):
  Calls prog 41 #[v,.agg #[.int .i64 T.k,.string T.t,.int .i64 T.n,.string T.nm,.slice T.xa T.len T.cap]] w fun e w'=>mt W w v l T.txt (30 * T.cnt - 10) e w':=by
 obtain⟨r1,r2,r3,r4,r5,r6,r7⟩:=jo (fG aA).1;have fo:=PT.txt_eq r1;have iT:=T.cnt_pos;have bU:=rK hv;have aF:=ab ((aV w.heap.size w).alloc (aw _) (.cells #[.int .i64 T.k,.string T.t,.int .i64 T.n,.string T.nm,.slice T.xa T.len T.cap] 27));have eb:Hid ((w.alloc (.cells #[.int .i64 T.k,.string T.t,.int .i64 T.n,.string T.nm,.slice T.xa T.len T.cap] 27)).heap[w.heap.size]? =some (kA T.k T)):=ab (ax rfl);have ii:=ab (hv.apart (aw _));have ji:=ab (hv.later (aa aF));have fE:=ab (aq bz (aa aF));have e1:(T.k==1)=false:=bn;have e18:(T.k==18)=false:=bn;have e19:(T.k==19)=false:=bn;have e21:(T.k==21)=false:=bn;have vt:(T.k==22)=false:=bn;have e23:(T.k==23)=false:=bn;have e24:(T.k==24)=true:=bt;have gP:¬(65536:Int) < (l.length:Int):=by omega
 have bX:T.nm.size≤16:=ze (fG aA).1 (by omega)
 have HT:Hid (T.txt=42::T.nm.data.toList):=ab (by rw[fo,ac (by omega),ac (by omega),ac (by omega),ac (by omega),ac (by omega),ac (by omega),af hk])
 clear fo r1 r2 r3 r4 r5 r6 r7 hk;go_enter func41,ntmps41;go_wp2_with fail;refine I9 (B:=W.heap.size) (r:=l) (bx:=w.heap.size) (row:=kA T.k T) (nm:=T.nm) bZ bZ bZ bZ bZ bZ bZ rfl rfl rfl (aa ji) (aa fE).size (by omega) rfl (aa eb) (aa ii) bX (fun W=>wi _ 3 (by omega) W) (fun W hW=>yp (lC hW).2.2.2.1) ?_
 intro x w2 v2 l2 hb2 eI he2 cv;have j9:=ab (And.intro hb2 (And.intro eI he2));clear hb2 eI he2;simp only[fl];go_frame;rw[cv];clear cv;go_wp2_with fail;go_ret;obtain⟨hb2,eI,he2⟩:=aa j9;have eI:l2=l++[42]++T.nm.data.toList:=eI;subst eI;have fC:T.nm.data.toList.length=T.nm.size:=by simp
 exact⟨_,_,rfl,hb2,(Ext.below v (aa aF)).trans he2,(aa fE).trans (he2.bel (aa ji) (aa fE).size),(((Grew.leaf l (42::T.nm.data.toList) hl (by simp only[List.length_cons];omega)).cast (aa HT).symm).more (by omega)).ret (by simp)⟩
theorem KW (T:PT) (ih:∀i,i < T.len→oN (T.kid i)) (W w:World) (v:Value) (l:List UInt8) (hR:Ready W) (hT:T.In W) (bz:Below W.heap.size W w) (aA:T.bad=0) (hv:aZ w W.heap.size v l) (hN:max l.length 196700+30 * T.cnt≤10000000) (h4:T.cnt≤4096) (hl:l.length≤65536) (hk:T.k≠1∧T.k≠18∧T.k≠19∧T.k≠21∧T.k≠22∧T.k≠23∧T.k≠24):
  Calls prog 41 #[v,.agg #[.int .i64 T.k,.string T.t,.int .i64 T.n,.string T.nm,.slice T.xa T.len T.cap]] w fun e w'=>mt W w v l T.txt (30 * T.cnt - 10) e w':=by
 obtain⟨r1,r2,r3,r4,r5,r6,r7⟩:=jo (fG aA).1;have fo:=PT.txt_eq r1;have iT:=T.cnt_pos;have bU:=rK hv;have aF:=ab ((aV w.heap.size w).alloc (aw _) (.cells #[.int .i64 T.k,.string T.t,.int .i64 T.n,.string T.nm,.slice T.xa T.len T.cap] 27));have eb:Hid ((w.alloc (.cells #[.int .i64 T.k,.string T.t,.int .i64 T.n,.string T.nm,.slice T.xa T.len T.cap] 27)).heap[w.heap.size]? =some (kA T.k T)):=ab (ax rfl);have ii:=ab (hv.apart (aw _));have ji:=ab (hv.later (aa aF));have fE:=ab (aq bz (aa aF));have e1:(T.k==1)=false:=bn;have e18:(T.k==18)=false:=bn;have e19:(T.k==19)=false:=bn;have e21:(T.k==21)=false:=bn;have vt:(T.k==22)=false:=bn;have e23:(T.k==23)=false:=bn;have e24:(T.k==24)=false:=bn;have gP:¬(65536:Int) < (l.length:Int):=by omega
 have HK:=ab (Ik T ih W _ v l hR hT (aa fE) aA (aa ji) hl hk hN h4);clear fo r1 r2 r3 r4 r5 r6 r7 hk;go_enter func41,ntmps41;go_wp2_with fail;refine(aa HK).mono ?_;rintro e w1 ⟨v1,r1',rfl,hb1,cW,mg,mP⟩;have eP:=ab (And.intro hb1 (And.intro cW (And.intro mg mP)));clear hb1 cW mg mP;go_wp2_with fail;go_ret;obtain⟨hb1,cW,mg,mP⟩:=aa eP;exact⟨_,_,rfl,hb1,(Ext.below v (aa aF)).trans cW,mg,mP⟩
theorem MC:∀T:PT,oN T:=PT.ind fun T ih W w v l hR hT bz aA hv hN h4=>by
 rcases cG 65536 l.length with hl | hl
 ·exact KX T ih W w v l hR hT bz aA hv hN h4 hl trivial
 by_cases k1:T.k=1
 ·exact Mv T ih W w v l hR hT bz aA hv hN h4 hl k1
 by_cases k18:T.k=18
 ·exact Mz T ih W w v l hR hT bz aA hv hN h4 hl k18
 by_cases k19:T.k=19
 ·exact MD T ih W w v l hR hT bz aA hv hN h4 hl k19
 by_cases k21:T.k=21
 ·exact My T ih W w v l hR hT bz aA hv hN h4 hl k21
 by_cases k22:T.k=22
 ·exact Mw T ih W w v l hR hT bz aA hv hN h4 hl k22
 by_cases k23:T.k=23
 ·exact Mx T ih W w v l hR hT bz aA hv hN h4 hl k23
 by_cases k24:T.k=24
 ·exact MA T ih W w v l hR hT bz aA hv hN h4 hl k24
 exact KW T ih W w v l hR hT bz aA hv hN h4 hl ⟨k1,k18,k19,k21,k22,k23,k24⟩
open Go.RowKit
theorem G1 {T:PT} (h:T.wrong=0):T.bad=0∧T.cnt≤4096:=by
 unfold PT.wrong at h
 cases hf:T.fits with
 | false=>rw[hf] at h;simp at h
 | true=>
  rw[hf] at h;refine⟨by simpa using h, ?_⟩
  unfold PT.fits at hf;simp at hf;exact hf.1
theorem Ready.later {w w':World} (h:Ready w) (hb:Below w.heap.size w w'):Ready w':=by
 obtain⟨m,hm⟩:=h.lim;exact⟨h.shapes.later hb,⟨m,av hb hm⟩,Lib.tabBelow_of_tabIs (h.pow w' hb)⟩
theorem wT {w:World} {B:Nat} {v:Value} {l:List UInt8} (ho:aZ w B v l):
  (convert 48 9 v).run prog w=.ok (.string ⟨l.toArray⟩) w:=by
 rcases ho.2 with ⟨rfl,h0⟩ | ⟨g,cap,cur,rfl,_,_,_,_,_,_⟩
 ·have:l=[]:=kG h0
  subst this;exact run_convert_bytes_nil (P:=prog) w 48 5 underlying48 underlying5 0 0 9 underlying9
 ·exact run_convert_bytes_back (P:=prog) w 48 9 5 ⟨g,0,none⟩ cap l underlying48 underlying5 underlying9 (fun j hj=>World.ownsRow.cells ho rfl j _ (by simp only[qb,gT hj,Option.map_some,bc]))
theorem Jz (T:PT) (w:World) (hR:Ready w) (hT:T.In w):
  Calls prog 19 #[pv T] w fun e w'=>e=.returned (kw T)∧Below w.heap.size w w':=by
 have HW:=ab (fun W (h:Below w.heap.size w W)=>zl T W (PT.In.later h hT) (hR.shapes.later h))
 have ei:=(aV w.heap.size w).alloc (aw _) (.cells #[.int .i64 T.k,.string T.t,.int .i64 T.n,.string T.nm,.slice T.xa T.len T.cap] 27);have HP:=ab (fun W (h:Below w.heap.size w W) hb hc=>MC T w W (.slice none 0 0) [] hR hT h hb (lX _ _ _ _) (by show max 0 196700+_≤_;omega) hc)
 unfold pv at HW ⊢;clear hT hR;go_enter func19,ntmps19;go_wp2_with fail;refine(aa HW _ ei).mono ?_;rintro e w1 ⟨rfl,hb1⟩;have H1:=ab (aq ei hb1);obtain⟨c0,c1,c2,c3,c4⟩:=M3 (an (ax rfl) hb1);clear ei hb1 HW
 by_cases hz:T.wrong=0
 ·have HC:=ab (G1 hz)
  have HS:Hid (kw T=(if 65536 < T.txt.length then .tuple #[.string ⟨#[]⟩,.int .i64 4] else .tuple #[.string ⟨T.txt.toArray⟩,.int .i64 0])):=ab (by unfold kw;rw[af hz])
  rw[hz];clear hz;go_wp2_with fail;refine(aa HP _ (aa H1) (aa HC).1 (aa HC).2).mono ?_;rintro e w2 ⟨v2,r2,rfl,hb2, -,kN,eS⟩;have H2:=ab kN;have bU:=rK hb2;have hout:=wT hb2;have hs:=eS.same;have hl:=eS.long;rw[List.nil_append] at hs hl;clear c0 c1 c2 c3 c4 kN
  by_cases hq:65536 < T.txt.length
  ·have h1:(65536:Int) < (r2.length:Int):=by have:=hl hq;omega
   have HE:Hid (kw T=.tuple #[.string ⟨#[]⟩,.int .i64 4]):=ab (by rw[aa HS,af hq])
   clear hq hs hl eS hb2;go_wp2_with fail;go_ret2;exact⟨by rw[aa HE];rfl,aa H2⟩
  ·have e:=hs (by omega)
   subst e;have h1:¬(65536:Int) < (T.txt.length:Int):=by omega
   have HE:Hid (kw T=.tuple #[.string ⟨T.txt.toArray⟩,.int .i64 0]):=ab (by rw[aa HS,ac hq])
   generalize T.txt=tx at *;clear hq hs hl eS hb2;go_wp2_with fail;go_ret2;exact⟨by rw[aa HE];rfl,aa H2⟩
 ·have HS:Hid (kw T=.tuple #[.string ⟨#[]⟩,.int .i64 T.wrong]):=ab (by unfold kw;rw[ac hz])
  have bi:(T.wrong !=0)=true:=by rw[sf];exact hz
  clear hz;go_wp2_with fail;go_ret2;exact⟨by rw[aa HS];rfl,aa H1⟩
open Go.RowKit
def gA (S:SV):ByteArray × Int:=if S.wrong≠0 then (ByteArray.empty,S.wrong) else if (S.k=4∨S.k=5∨S.k=6)∧65536 < S.pa.txt.length then (ByteArray.empty,4) else if eu (ar (bT S))=true then (ByteArray.empty,2) else if 2000 < (ar (bT S)).length then (ByteArray.empty,4) else (⟨(ar (bT S)).toArray⟩,0)
def lH (S:SV):Value:=.tuple #[.string (gA S).1,.int .i64 (gA S).2]
structure PrW (w:World):Prop where
 env:EnvW w
 rdy:Ready w
theorem PrW.later {w w':World} (h:PrW w) (hb:Below w.heap.size w w'):PrW w':=⟨h.env.later hb,h.rdy.later hb⟩
theorem BB (t:List UInt8):((⟨#[91]⟩:ByteArray)++⟨t.toArray⟩++⟨#[93]⟩).data.toList=91::(t++[93]):=by
 simp
theorem A3 {S:SV} (h:S.wrong=0) (hk:S.k=4∨S.k=5∨S.k=6):S.pa.wrong=0:=by
 obtain⟨-,hq⟩:=qE h;unfold SV.kndE at hq;rcases hk with hk | hk | hk
 ·rw[hk] at hq
  have hq:ek [S.va.wrongX,S.pa.wrong]=0:=hq;exact(cH (cH hq).2).1
 ·rw[hk] at hq
  have hq:ek [lT S.tg,S.pa.wrong,S.va.wrongX]=0:=hq;exact(cH (cH hq).2).1
 ·rw[hk] at hq
  have hq:ek [dH [S.nm],S.pa.wrong]=0:=hq;exact(cH (cH hq).2).1
theorem Ir (S:SV) (w:World) (hP:PrW w) (eJ:S.In w):Calls prog 7 #[S.v] w fun e w'=>e=.returned (lH S)∧Below w.heap.size w w':=by
 obtain⟨C,hC⟩:∃C,C=S.cells:=⟨_,rfl⟩;have dI:S.v=.agg C:=by rw[hC];rfl
 have gn:=ab dI;have iF:Hid (C.size=24):=ab (by rw[hC];rfl)
 have dF:C[1]? =some (.int .i64 S.k):=by rw[hC];rfl
 have HPAT:Hid (C[12]? =some (.int .i64 S.pa.k)∧C[13]? =some (.string S.pa.t)∧C[14]? =some (.int .i64 S.pa.n)∧C[15]? =some (.string S.pa.nm)∧C[16]? =some (.slice S.pa.xa S.pa.len S.pa.cap)):=ab (by rw[hC];exact⟨rfl,rfl,rfl,rfl,rfl⟩)
 obtain⟨w1,aI⟩:∃w1,w1=w.alloc (.cells C 30):=⟨_,rfl⟩;have bp:Below w.heap.size w w1:=by rw[aI];exact ba _
 have HBX1:Hid (w1.heap[w.heap.size]? =some (.cells C 30 (0,0))):=ab (by rw[aI];exact ax rfl)
 have bG:Hid (w.alloc (.cells C 30)=w1):=ab (aI.symm);have HWG:Hid (Calls prog 11 #[.agg C] w1 fun e w'=>e=.returned (.int .i64 S.wrong)∧Below w1.heap.size w1 w'):=ab (dI▸Kt S w1 (eJ.later bp) (hP.env.shx.later bp) (hP.rdy.shapes.later bp))
 have jE:=ab (fun (W1:World) (h:Below w.heap.size w W1)=>show Calls prog 19 #[.agg #[.int .i64 S.pa.k,.string S.pa.t,.int .i64 S.pa.n,.string S.pa.nm,.slice S.pa.xa S.pa.len S.pa.cap]] W1 fun e w'=>e=.returned (kw S.pa)∧Below W1.heap.size W1 w' from Jz S.pa W1 (hP.rdy.later h) (PT.In.later h eJ.pa))
 have px:=ab hP;have iV:=ab eJ;have HAL:=ab bp;have vF:Hid (gA S=if S.wrong≠0 then (ByteArray.empty,S.wrong) else if (S.k=4∨S.k=5∨S.k=6)∧65536 < S.pa.txt.length then (ByteArray.empty,4) else if eu (ar (bT S))=true then (ByteArray.empty,2) else if 2000 < (ar (bT S)).length then (ByteArray.empty,4) else (⟨(ar (bT S)).toArray⟩,0)):=ab (rfl);rw[dI];have HCK:=ab dF;clear hP eJ bp aI hC dI dF;go_enter func7,ntmps7;go_wp2_with (first
  | (refine io rfl 30 _ rfl w.heap.size rfl 30 C (0,0) _ (by rw[aa bG];exact aa HBX1) underlying30 rfl (pN.trans (by rw[aa iF])) ?_)
  | fail)
 rw[aa bG];refine(aa HWG).mono ?_;rintro e w2 ⟨rfl,hb2⟩;have aE:=ab (aq (aa HAL) hb2);have cV:=ab (an (aa HBX1) hb2);clear hb2 HWG
 by_cases hw:S.wrong=0
 ·have HWR:=ab hw
  have q0:(S.wrong !=0)=false:=by rw[hw];rfl
  have oq:=ab ((aa vF).trans (ac (fun q=>q hw)))
  have c1:=bB (aa cV) (aa HCK);clear hw vF
  by_cases iS:S.k=4∨S.k=5∨S.k=6
  ·rcases iS with h | h | h
   ·have iS:S.k=4∨S.k=5∨S.k=6:=.inl h
    rw[h] at c1;obtain⟨m0,m1,m2,m3,m4⟩:=aa HPAT;have g0:=bB (aa cV) m0;have g1:=bB (aa cV) m1;have g2:=bB (aa cV) m2;have g3:=bB (aa cV) m3;have g4:=bB (aa cV) m4;have iG:=A3 (aa HWR) iS;have mi:=ab (aa jE w2 (aa aE))
    by_cases hl:65536 < S.pa.txt.length
    ·have hs:kw S.pa=.tuple #[.string ⟨#[]⟩,.int .i64 4]:=by unfold kw;rw[af iG,af hl]
     rw[hs] at mi;have HA:=ab ((aa oq).trans (af ⟨iS,hl⟩));clear hs hl iS h m0 m1 m2 m3 m4 iG oq jE;go_wp2_with fail;refine(aa mi).mono ?_;rintro e w3 ⟨rfl,hb3⟩;have ao:=ab ((aa aE).trans (hb3.mono (aa aE).size));clear hb3;go_wp2_with fail;go_ret2;exact⟨by unfold lH;rw[aa HA];rfl,aa ao⟩
    ·have hs:kw S.pa=.tuple #[.string ⟨S.pa.txt.toArray⟩,.int .i64 0]:=by unfold kw;rw[af iG,ac hl]
     rw[hs] at mi;have mQ:=ab ((aa oq).trans (ac (fun q=>hl q.2)))
     obtain⟨p,hp⟩:∃p:ByteArray,p=⟨S.pa.txt.toArray⟩:=⟨_,rfl⟩;have lQ:p.size≤65536:=by rw[hp];show S.pa.txt.toArray.size≤65536;rw[lJ];omega
     have mj:Hid (S.k=4∨S.k=5∨S.k=6→((⟨#[91]⟩:ByteArray)++p++⟨#[93]⟩).data.toList=91::(S.pa.txt++[93])∧((⟨#[91]⟩:ByteArray)++p++⟨#[93]⟩).size≤65538):=ab (fun _=>⟨by rw[hp];exact BB _,by
      rw[ws,ws];have e1:(⟨#[91]⟩:ByteArray).size=1:=rfl;have e2:(⟨#[93]⟩:ByteArray).size=1:=rfl;omega⟩)
     rw[←hp] at mi;clear hs hl iS h m0 m1 m2 m3 m4 iG oq jE hp;go_wp2_with fail;refine(aa mi).mono ?_;rintro e w3 ⟨rfl,hb3⟩;have ao:=ab ((aa aE).trans (hb3.mono (aa aE).size));have dc:=ab (an (aa cV) hb3);clear hb3 g0 g1 g2 g3 g4 c1;obtain⟨zw,jx⟩:∃zw,zw=w3.alloc (.cells #[.slice none 0 0,.bool false] 59):=⟨_,rfl⟩;have jy:Below w3.heap.size w3 zw:=by rw[jx];exact ba _
     have ny:WrI (w3.heap.size+1) w3.heap.size zw (.slice none 0 0) [] false:=by
      refine⟨by rw[jx];exact ax rfl,lX _ _ _ _,by omega,by rw[jx];simp⟩
     have fc:=ab (zx S ((⟨#[91]⟩:ByteArray)++p++⟨#[93]⟩) ((aa px).env.later (aa ao)) jy (aw _) ny ((aa iV).later (aa ao)) (aa HWR) (aa mj) (by decide))
     rw[aa gn] at fc;have vK:=ab (aq (aa ao) jy);have wI:=ab (an (aa dc) jy);have rp:Hid (w3.alloc (.cells #[.slice none 0 0,.bool false] 59)=zw):=ab (jx.symm);have HZB:=ab jy;have HZI:=ab ny;clear jx jy ny;go_wp2_with (first
      | (refine io rfl 30 _ rfl w.heap.size rfl 30 C (0,0) _ (by rw[aa rp];exact aa wI) underlying30 rfl (pN.trans (by rw[aa iF])) ?_)
      | fail)
     rw[aa rp];refine(aa fc).mono ?_;rintro e w9 ⟨rfl,v9,o9,ot,gV,re⟩;have gY:Hid (Below w.heap.size w w9):=ab ((aa ao).trans ((WX.bel (aa HZB) (aa HZI) (aw _) ot).mono (aa ao).size));obtain⟨xa,cp,nA⟩:=rI gV.row;subst nA;have c0:=gV.c0;have c1:=gV.c1;have tL:=wT gV.row;have HG:=ab re;rw[xE] at c1;clear ot gV re fc
     cases fC:eu (ar (bT S))
     ·rw[fC] at c1
      have HA:=aa mQ;rw[ac (by rw[fC];decide)] at HA
      by_cases hl:2000 < (ar (bT S)).length
      ·have q:=(aa HG).long hl
       have q2:(2000:Int) < (o9.length:Int):=by omega
       rw[af hl] at HA;have HA:=ab HA;clear hl q fC;go_wp2_with fail;go_ret2;exact⟨by unfold lH;rw[aa HA];rfl,aa gY⟩
      ·have q:=(aa HG).same (by rw[List.nil_append];omega)
       rw[List.nil_append] at q;have q2:¬(2000:Int) < (o9.length:Int):=by rw[q];omega
       rw[ac hl] at HA;have HA:=ab HA;have HQ:=ab q;clear hl q fC;go_wp2_with fail;go_ret2;exact⟨by unfold lH;rw[aa HA,aa HQ];rfl,aa gY⟩
     ·rw[fC] at c1
      have HA:=aa mQ;rw[af fC] at HA;have HA:=ab HA;clear fC;go_wp2_with fail;go_ret2;exact⟨by unfold lH;rw[aa HA];rfl,aa gY⟩
   ·have iS:S.k=4∨S.k=5∨S.k=6:=.inr (.inl h)
    rw[h] at c1;obtain⟨m0,m1,m2,m3,m4⟩:=aa HPAT;have g0:=bB (aa cV) m0;have g1:=bB (aa cV) m1;have g2:=bB (aa cV) m2;have g3:=bB (aa cV) m3;have g4:=bB (aa cV) m4;have iG:=A3 (aa HWR) iS;have mi:=ab (aa jE w2 (aa aE))
    by_cases hl:65536 < S.pa.txt.length
    ·have hs:kw S.pa=.tuple #[.string ⟨#[]⟩,.int .i64 4]:=by unfold kw;rw[af iG,af hl]
     rw[hs] at mi;have HA:=ab ((aa oq).trans (af ⟨iS,hl⟩));clear hs hl iS h m0 m1 m2 m3 m4 iG oq jE;go_wp2_with fail;refine(aa mi).mono ?_;rintro e w3 ⟨rfl,hb3⟩;have ao:=ab ((aa aE).trans (hb3.mono (aa aE).size));clear hb3;go_wp2_with fail;go_ret2;exact⟨by unfold lH;rw[aa HA];rfl,aa ao⟩
    ·have hs:kw S.pa=.tuple #[.string ⟨S.pa.txt.toArray⟩,.int .i64 0]:=by unfold kw;rw[af iG,ac hl]
     rw[hs] at mi;have mQ:=ab ((aa oq).trans (ac (fun q=>hl q.2)))
     obtain⟨p,hp⟩:∃p:ByteArray,p=⟨S.pa.txt.toArray⟩:=⟨_,rfl⟩;have lQ:p.size≤65536:=by rw[hp];show S.pa.txt.toArray.size≤65536;rw[lJ];omega
     have mj:Hid (S.k=4∨S.k=5∨S.k=6→((⟨#[91]⟩:ByteArray)++p++⟨#[93]⟩).data.toList=91::(S.pa.txt++[93])∧((⟨#[91]⟩:ByteArray)++p++⟨#[93]⟩).size≤65538):=ab (fun _=>⟨by rw[hp];exact BB _,by
      rw[ws,ws];have e1:(⟨#[91]⟩:ByteArray).size=1:=rfl;have e2:(⟨#[93]⟩:ByteArray).size=1:=rfl;omega⟩)
     rw[←hp] at mi;clear hs hl iS h m0 m1 m2 m3 m4 iG oq jE hp;go_wp2_with fail;refine(aa mi).mono ?_;rintro e w3 ⟨rfl,hb3⟩;have ao:=ab ((aa aE).trans (hb3.mono (aa aE).size));have dc:=ab (an (aa cV) hb3);clear hb3 g0 g1 g2 g3 g4 c1;obtain⟨zw,jx⟩:∃zw,zw=w3.alloc (.cells #[.slice none 0 0,.bool false] 59):=⟨_,rfl⟩;have jy:Below w3.heap.size w3 zw:=by rw[jx];exact ba _
     have ny:WrI (w3.heap.size+1) w3.heap.size zw (.slice none 0 0) [] false:=by
      refine⟨by rw[jx];exact ax rfl,lX _ _ _ _,by omega,by rw[jx];simp⟩
     have fc:=ab (zx S ((⟨#[91]⟩:ByteArray)++p++⟨#[93]⟩) ((aa px).env.later (aa ao)) jy (aw _) ny ((aa iV).later (aa ao)) (aa HWR) (aa mj) (by decide))
     rw[aa gn] at fc;have vK:=ab (aq (aa ao) jy);have wI:=ab (an (aa dc) jy);have rp:Hid (w3.alloc (.cells #[.slice none 0 0,.bool false] 59)=zw):=ab (jx.symm);have HZB:=ab jy;have HZI:=ab ny;clear jx jy ny;go_wp2_with (first
      | (refine io rfl 30 _ rfl w.heap.size rfl 30 C (0,0) _ (by rw[aa rp];exact aa wI) underlying30 rfl (pN.trans (by rw[aa iF])) ?_)
      | fail)
     rw[aa rp];refine(aa fc).mono ?_;rintro e w9 ⟨rfl,v9,o9,ot,gV,re⟩;have gY:Hid (Below w.heap.size w w9):=ab ((aa ao).trans ((WX.bel (aa HZB) (aa HZI) (aw _) ot).mono (aa ao).size));obtain⟨xa,cp,nA⟩:=rI gV.row;subst nA;have c0:=gV.c0;have c1:=gV.c1;have tL:=wT gV.row;have HG:=ab re;rw[xE] at c1;clear ot gV re fc
     cases fC:eu (ar (bT S))
     ·rw[fC] at c1
      have HA:=aa mQ;rw[ac (by rw[fC];decide)] at HA
      by_cases hl:2000 < (ar (bT S)).length
      ·have q:=(aa HG).long hl
       have q2:(2000:Int) < (o9.length:Int):=by omega
       rw[af hl] at HA;have HA:=ab HA;clear hl q fC;go_wp2_with fail;go_ret2;exact⟨by unfold lH;rw[aa HA];rfl,aa gY⟩
      ·have q:=(aa HG).same (by rw[List.nil_append];omega)
       rw[List.nil_append] at q;have q2:¬(2000:Int) < (o9.length:Int):=by rw[q];omega
       rw[ac hl] at HA;have HA:=ab HA;have HQ:=ab q;clear hl q fC;go_wp2_with fail;go_ret2;exact⟨by unfold lH;rw[aa HA,aa HQ];rfl,aa gY⟩
     ·rw[fC] at c1
      have HA:=aa mQ;rw[af fC] at HA;have HA:=ab HA;clear fC;go_wp2_with fail;go_ret2;exact⟨by unfold lH;rw[aa HA];rfl,aa gY⟩
   ·have iS:S.k=4∨S.k=5∨S.k=6:=.inr (.inr h)
    rw[h] at c1;obtain⟨m0,m1,m2,m3,m4⟩:=aa HPAT;have g0:=bB (aa cV) m0;have g1:=bB (aa cV) m1;have g2:=bB (aa cV) m2;have g3:=bB (aa cV) m3;have g4:=bB (aa cV) m4;have iG:=A3 (aa HWR) iS;have mi:=ab (aa jE w2 (aa aE))
    by_cases hl:65536 < S.pa.txt.length
    ·have hs:kw S.pa=.tuple #[.string ⟨#[]⟩,.int .i64 4]:=by unfold kw;rw[af iG,af hl]
     rw[hs] at mi;have HA:=ab ((aa oq).trans (af ⟨iS,hl⟩));clear hs hl iS h m0 m1 m2 m3 m4 iG oq jE;go_wp2_with fail;refine(aa mi).mono ?_;rintro e w3 ⟨rfl,hb3⟩;have ao:=ab ((aa aE).trans (hb3.mono (aa aE).size));clear hb3;go_wp2_with fail;go_ret2;exact⟨by unfold lH;rw[aa HA];rfl,aa ao⟩
    ·have hs:kw S.pa=.tuple #[.string ⟨S.pa.txt.toArray⟩,.int .i64 0]:=by unfold kw;rw[af iG,ac hl]
     rw[hs] at mi;have mQ:=ab ((aa oq).trans (ac (fun q=>hl q.2)))
     obtain⟨p,hp⟩:∃p:ByteArray,p=⟨S.pa.txt.toArray⟩:=⟨_,rfl⟩;have lQ:p.size≤65536:=by rw[hp];show S.pa.txt.toArray.size≤65536;rw[lJ];omega
     have mj:Hid (S.k=4∨S.k=5∨S.k=6→((⟨#[91]⟩:ByteArray)++p++⟨#[93]⟩).data.toList=91::(S.pa.txt++[93])∧((⟨#[91]⟩:ByteArray)++p++⟨#[93]⟩).size≤65538):=ab (fun _=>⟨by rw[hp];exact BB _,by
      rw[ws,ws];have e1:(⟨#[91]⟩:ByteArray).size=1:=rfl;have e2:(⟨#[93]⟩:ByteArray).size=1:=rfl;omega⟩)
     rw[←hp] at mi;clear hs hl iS h m0 m1 m2 m3 m4 iG oq jE hp;go_wp2_with fail;refine(aa mi).mono ?_;rintro e w3 ⟨rfl,hb3⟩;have ao:=ab ((aa aE).trans (hb3.mono (aa aE).size));have dc:=ab (an (aa cV) hb3);clear hb3 g0 g1 g2 g3 g4 c1;obtain⟨zw,jx⟩:∃zw,zw=w3.alloc (.cells #[.slice none 0 0,.bool false] 59):=⟨_,rfl⟩;have jy:Below w3.heap.size w3 zw:=by rw[jx];exact ba _
     have ny:WrI (w3.heap.size+1) w3.heap.size zw (.slice none 0 0) [] false:=by
      refine⟨by rw[jx];exact ax rfl,lX _ _ _ _,by omega,by rw[jx];simp⟩
     have fc:=ab (zx S ((⟨#[91]⟩:ByteArray)++p++⟨#[93]⟩) ((aa px).env.later (aa ao)) jy (aw _) ny ((aa iV).later (aa ao)) (aa HWR) (aa mj) (by decide))
     rw[aa gn] at fc;have vK:=ab (aq (aa ao) jy);have wI:=ab (an (aa dc) jy);have rp:Hid (w3.alloc (.cells #[.slice none 0 0,.bool false] 59)=zw):=ab (jx.symm);have HZB:=ab jy;have HZI:=ab ny;clear jx jy ny;go_wp2_with (first
      | (refine io rfl 30 _ rfl w.heap.size rfl 30 C (0,0) _ (by rw[aa rp];exact aa wI) underlying30 rfl (pN.trans (by rw[aa iF])) ?_)
      | fail)
     rw[aa rp];refine(aa fc).mono ?_;rintro e w9 ⟨rfl,v9,o9,ot,gV,re⟩;have gY:Hid (Below w.heap.size w w9):=ab ((aa ao).trans ((WX.bel (aa HZB) (aa HZI) (aw _) ot).mono (aa ao).size));obtain⟨xa,cp,nA⟩:=rI gV.row;subst nA;have c0:=gV.c0;have c1:=gV.c1;have tL:=wT gV.row;have HG:=ab re;rw[xE] at c1;clear ot gV re fc
     cases fC:eu (ar (bT S))
     ·rw[fC] at c1
      have HA:=aa mQ;rw[ac (by rw[fC];decide)] at HA
      by_cases hl:2000 < (ar (bT S)).length
      ·have q:=(aa HG).long hl
       have q2:(2000:Int) < (o9.length:Int):=by omega
       rw[af hl] at HA;have HA:=ab HA;clear hl q fC;go_wp2_with fail;go_ret2;exact⟨by unfold lH;rw[aa HA];rfl,aa gY⟩
      ·have q:=(aa HG).same (by rw[List.nil_append];omega)
       rw[List.nil_append] at q;have q2:¬(2000:Int) < (o9.length:Int):=by rw[q];omega
       rw[ac hl] at HA;have HA:=ab HA;have HQ:=ab q;clear hl q fC;go_wp2_with fail;go_ret2;exact⟨by unfold lH;rw[aa HA,aa HQ];rfl,aa gY⟩
     ·rw[fC] at c1
      have HA:=aa mQ;rw[af fC] at HA;have HA:=ab HA;clear fC;go_wp2_with fail;go_ret2;exact⟨by unfold lH;rw[aa HA];rfl,aa gY⟩
  ·have r4:(S.k==4)=false:=bn
   have r5:(S.k==5)=false:=bn;have r6:(S.k==6)=false:=bn;have mQ:=ab ((aa oq).trans (ac (fun q=>iS q.1)))
   have mj:Hid (S.k=4∨S.k=5∨S.k=6→(⟨#[]⟩:ByteArray).data.toList=91::(S.pa.txt++[93])∧(⟨#[]⟩:ByteArray).size≤65538):=ab (fun q=>absurd q iS)
   clear iS oq jE;obtain⟨zw,jx⟩:∃zw,zw=w2.alloc (.cells #[.slice none 0 0,.bool false] 59):=⟨_,rfl⟩;have jy:Below w2.heap.size w2 zw:=by rw[jx];exact ba _
   have ny:WrI (w2.heap.size+1) w2.heap.size zw (.slice none 0 0) [] false:=by
    refine⟨by rw[jx];exact ax rfl,lX _ _ _ _,by omega,by rw[jx];simp⟩
   have fc:=ab (zx S ⟨#[]⟩ ((aa px).env.later (aa aE)) jy (aw _) ny ((aa iV).later (aa aE)) (aa HWR) (aa mj) (by decide))
   rw[aa gn] at fc;have vK:=ab (aq (aa aE) jy);have wI:=ab (an (aa cV) jy);have rp:Hid (w2.alloc (.cells #[.slice none 0 0,.bool false] 59)=zw):=ab (jx.symm);have HZB:=ab jy;have HZI:=ab ny;clear jx jy ny;go_wp2_with (first
    | (refine io rfl 30 _ rfl w.heap.size rfl 30 C (0,0) _ (by rw[aa rp];exact aa wI) underlying30 rfl (pN.trans (by rw[aa iF])) ?_)
    | fail)
   rw[aa rp];refine(aa fc).mono ?_;rintro e w9 ⟨rfl,v9,o9,ot,gV,re⟩;have gY:Hid (Below w.heap.size w w9):=ab ((aa aE).trans ((WX.bel (aa HZB) (aa HZI) (aw _) ot).mono (aa aE).size));obtain⟨xa,cp,nA⟩:=rI gV.row;subst nA;have c0:=gV.c0;have c1:=gV.c1;have tL:=wT gV.row;have HG:=ab re;rw[xE] at c1;clear ot gV re fc
   cases fC:eu (ar (bT S))
   ·rw[fC] at c1
    have HA:=aa mQ;rw[ac (by rw[fC];decide)] at HA
    by_cases hl:2000 < (ar (bT S)).length
    ·have q:=(aa HG).long hl
     have q2:(2000:Int) < (o9.length:Int):=by omega
     rw[af hl] at HA;have HA:=ab HA;clear hl q fC;go_wp2_with fail;go_ret2;exact⟨by unfold lH;rw[aa HA];rfl,aa gY⟩
    ·have q:=(aa HG).same (by rw[List.nil_append];omega)
     rw[List.nil_append] at q;have q2:¬(2000:Int) < (o9.length:Int):=by rw[q];omega
     rw[ac hl] at HA;have HA:=ab HA;have HQ:=ab q;clear hl q fC;go_wp2_with fail;go_ret2;exact⟨by unfold lH;rw[aa HA,aa HQ];rfl,aa gY⟩
   ·rw[fC] at c1
    have HA:=aa mQ;rw[af fC] at HA;have HA:=ab HA;clear fC;go_wp2_with fail;go_ret2;exact⟨by unfold lH;rw[aa HA];rfl,aa gY⟩
 ·have q0:(S.wrong !=0)=true:=by simp;exact hw
  have HA:Hid (gA S=(ByteArray.empty,S.wrong)):=ab ((aa vF).trans (af hw));clear hw;go_wp2_with fail;go_ret2;exact⟨by unfold lH;rw[aa HA];rfl,aa aE⟩
end Go.Proofs.YtlmnjbipfacniaaGreatDoor
