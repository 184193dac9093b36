/- The document's BareExpr of a right expression. Rows of bytes -/
import Derived.Test.YtlmnjbipfacniaaGreatDoorBxBM
import Derived.Test.YtlmnjbipfacniaaGreatDoorLxPlainM
set_option maxRecDepth 100000
set_option maxHeartbeats 4000000
namespace Go.Proofs.YtlmnjbipfacniaaGreatDoor
open Go.Proofs.Tryz
open Go.RowKit
theorem Me {T:PT} (ih:∀i,i < T.len→oB (T.kid i)) (hc:T.k=1):oB T:=by
 intro w hT aA;have HA:=ab hT;have gV:=ab aA;have gY:=ab (iV aA).2;have IH:=ab ih;have eR:Hid (T.len≤4096):=ab (by have:=wQ T.k;have:=(oz (iV aA).1).2.2.2.2.2;omega)
 have jg:Hid (T.t=if T.k=1 then T.t else ByteArray.empty):=ab (by rw[af hc])
 have dl:Hid (0=if T.k=2 then T.n else 0):=ab (by rw[ac (by omega)])
 have eJ:Hid (⟨#[]⟩=if bW T.k=true then T.nm else ByteArray.empty):=ab (by rw[ac (by unfold bW;simp;omega)];rfl)
 have e1:(T.k==1)=true:=bt;obtain⟨W,hW⟩:∃W,W=((w.alloc (.cells (ai T) 24)).alloc (.cells aB 24)).alloc (.cells #[.int .i64 T.k,.string T.t,.int .i64 0,.string ⟨#[]⟩,.slice none 0 0] 24):=⟨_,rfl⟩;have HB:Hid (Below w.heap.size w W):=ab (by rw[hW];exact((ba _).alloc (by simp) _).alloc (by simp;omega) _)
 have HO:Hid (W.heap[w.heap.size+1+1]? =some (.cells #[.int .i64 T.k,.string T.t,.int .i64 0,.string ⟨#[]⟩,.slice none 0 0] 24 (0,0))):=ab (by rw[hW];exact aw (by simp))
 have HX:Hid (W.heap[w.heap.size+1]? =some (.cells aB 24 (0,0))):=ab (by rw[hW];exact bL (by simp) (aw (by simp)))
 have HP:Hid (W.heap[w.heap.size]? =some (.cells (ai T) 24 (0,0))):=ab (by rw[hW];exact bL (by simp;omega) (bL (by simp) (aw rfl)))
 have HW:=ab hW;have rY:¬w.heap.size=w.heap.size+1+1:=by omega
 have rX:¬w.heap.size+1+1=w.heap.size:=by omega
 clear hT aA ih hW hc;unfold pv;go_enter func28,ntmps28;go_wp2_with fail;rw[show ((w.alloc (.cells #[.int .i64 T.k,.string T.t,.int .i64 T.n,.string T.nm,.slice T.xa T.len T.cap] 24)).alloc (.cells #[.int .i64 0,.string ⟨#[]⟩,.int .i64 0,.string ⟨#[]⟩,.slice none 0 0] 24)).alloc (.cells #[.int .i64 T.k,.string T.t,.int .i64 0,.string ⟨#[]⟩,.slice none 0 0] 24)=W from (aa HW).symm];clear HW;have aD:Hid (XBre w T T.t 0 ⟨#[]⟩ W (.slice none 0 0) 0 []):=ab (⟨aa HP,aa HX,aa HO,aa HB,KidsX.nil⟩);clear HP HX HO HB;go_loopw [31] (fun x wr=>∃(k:Nat) (v:Value) (L:List PT),k≤T.len∧x=.int .i64 (k:Int)∧Hid (XBre w T T.t 0 ⟨#[]⟩ wr v k L)) (fun x _=>T.len - (intOf x).toNat)
 case atStart=>exact⟨0,_,[],cU _,rfl,aa aD⟩
 case round=>
  obtain⟨k,v,L,hk,rfl,HK⟩:=hrel;clear aD;have js:=aa eR;rcases cX k T.len with au | jc
  ·have g1:(k:Int) < (T.len:Int):=by omega
   have lm:=mu (aa HA) au;have bA:=(aa HA).cells au;unfold PT.kv at bA;have HC:=ab (fun W (hb:Below w.heap.size w W)=>aa IH k au W (PT.In.later hb ((aa HA).kids au)) (aa gY k au))
   have cd:=(fun (i:Nat) (x:Value) (h:w.cell? ⟨T.b,i,none⟩=some x)=>av (aa HK).bel h)
   have a0:=cd _ _ bA.1;have a1:=cd _ _ bA.2.1;have a2:=cd _ _ bA.2.2.1;have a3:=cd _ _ bA.2.2.2.1;have a4:=cd _ _ bA.2.2.2.2;clear cd bA;obtain⟨P,hP⟩:∃P,T.kid k=P:=⟨_,rfl⟩;rw[hP] at HC a0 a1 a2 a3 a4;have kz:=ab hP;clear hP;unfold pv at HC;have hb3:Below wr.heap.size wr (wr.alloc (.cells (ai P) 24)):=ba _;have hq:(wr.alloc (.cells (ai P) 24)).heap[wr.heap.size]? =some (.cells (ai P) 24 (0,0)):=aw rfl;have kA:=ab (am (aa HK).out hb3);have aq:=ab hb3;have dZ:=ab hq;go_wp2_with fail;rw[show (#[.int .i64 P.k,.string P.t,.int .i64 P.n,.string P.nm,.slice P.xa P.len P.cap]:Array Value)=ai P from rfl];generalize (wr.alloc (.cells (ai P) 24))=w3 at *;obtain⟨q0,q1,q2,q3,q4⟩:=dD (aa dZ);obtain⟨o0,o1,o2,o3,o4⟩:=dD (aa kA);clear hq hb3 a0 a1 a2 a3 a4 o0 o1 o2 o3;have dR:=ab (aa HK).lt;obtain⟨S0,aO⟩:∃S0:World→Prop,S0=fun w'=>w'.cell? ⟨w.heap.size+1+1,4,none⟩=some v∧w'.cell? ⟨wr.heap.size,0,none⟩=some (.int .i64 P.k)∧w'.cell? ⟨wr.heap.size,1,none⟩=some (.string P.t)∧w'.cell? ⟨wr.heap.size,2,none⟩=some (.int .i64 P.n)∧w'.cell? ⟨wr.heap.size,3,none⟩=some (.string P.nm)∧w'.cell? ⟨wr.heap.size,4,none⟩=some (.slice P.xa P.len P.cap):=⟨_,rfl⟩
   have ao:=ab aO;have hS:S0 w3.drew:=by rw[aO];exact⟨o4,q0,q1,q2,q3,q4⟩
   have aU:Hid (∀W,Below w3.heap.size w3 W→S0 W):=ab (fun W h=>by rw[aO];exact⟨av h o4,av h q0,av h q1,av h q2,av h q3,av h q4⟩)
   clear aO;refine gZ 7 S0 ?_;intro F;refine aK F 0 ao hS ?_
   (try go_frame)
   refine aK F 1 ao hS ?_
   (try go_frame)
   refine aK F 2 ao hS ?_
   (try go_frame)
   refine cg 3 (fun K3 cO=> ?_)
   go_simp;have ko:Below w.heap.size w w3.drew:=(ap (aa HK).bel (aa aq)).drew;refine(aa HC _ ko).mono ?_;rintro e w4 ⟨⟨U,rfl,hU,hL⟩,hb4⟩;have hb4':Below w3.heap.size w3 w4:=ap (aW _ _).drew hb4;refine cO _ _ (aa aU _ hb4') ?_;refine cg 4 (fun K4 bH=> ?_)
   (try unfold pv)
   go_simp;have hb5:Below w4.heap.size w4 (w4.alloc (.cells (ai U) 24)):=ba _;refine bH _ _ (aa aU _ (ap hb4' hb5)) ?_;refine cg 5 (fun K5 dP=> ?_)
   have dw:cc (w4.alloc (.cells (ai U) 24)) (w.heap.size+1+1+1) 24 5 eO v L:=((aa HK).kids.row.later (aa aq)).later (ap hb4' hb5);have sf:=(aa HK).len hk;refine ql underlying22 wc rfl (by decide) (by decide) jh nK rfl (.tmp 36) (.tmp 39) rfl dw (by rw[eu];have:=aa dR;have:=hb4'.size;have:=(aa aq).size;omega) U w4.heap.size 1 rfl rfl vQ (by have:=aa eR;omega) ?_
   intro v' w6 aV bS dX;have ef:=ab ((aa HK).put au (aa aq) hb4' (by rw[hU,aa kz]) hL aV bS dX)
   have hfz:=cT w6 (w.heap.size+1+1) 4 _ _ (show w6.heap[w.heap.size+1+1]? =_ from ox dw bS (am (am (aa HK).out (aa aq)) (ap hb4' hb5)) (by omega))
   have gq:=(dD (show w6.heap[w.heap.size+1+1]? =_ from ox dw bS (am (am (aa HK).out (aa aq)) (ap hb4' hb5)) (by omega))).2.2.2.2
   have dQ:Hid (S0 w6):=ab (by
    rw[aa ao];have dV:w6.heap[wr.heap.size]? =_:=(bS.block wr.heap.size (i6 (bC.1 (aa dZ)).1 (ap hb4' hb5).size) (fun e=>by have h1:=((aa HK).kids.row.low e.symm).2;omega)).trans (am (aa dZ) (ap hb4' hb5))
    obtain⟨z0,z1,z2,z3,z4⟩:=dD dV;exact⟨gq,z0,z1,z2,z3,z4⟩)
   obtain⟨g6,cap6,eg, -, -⟩:=aV.form (by simp)
   generalize (L++[U]).length=n6 at eg;subst eg;refine dP _ _ (aa dQ) ?_;refine cg 6 (fun K6 gx=> ?_)
   go_simp;refine gx _ _ (aa dQ) ?_;refine g5 (by kernel_rfl) rfl (by kernel_rfl) (fun K7 gu=> ?_)
   clear aV bS dX dw hb5 hb4 hb4' hL hU hS q0 q1 q2 q3 q4 o4;go_simp;refine gu _ _ ?_
   (try simp only[aH,aP,aG])
   (try go_frame)
   clear gu gx dP bH cO K7 K6 K5 K4 K3 F ao aU gq hfz;go_wp2_with fail;exact⟨⟨k+1,_,L++[U],by omega,rfl,aa ef⟩,by simp[intOf];omega⟩
  ·obtain rfl:k=T.len:=by omega
   have g1:¬(T.len:Int) < (T.len:Int):=by omega
   obtain⟨U,gt,eh,gr⟩:=(aa HK).fin (aa HA) (aa gV) (aa jg) (aa dl) (aa eJ);obtain⟨o0,o1,o2,o3,o4⟩:=dD (aa HK).out;have HX:=ab (aa HK).box;have HU:=ab (And.intro gt (And.intro eh gr));have ay:=(aa HK).lt;clear gt eh gr;go_wp2_with (first
    | (refine aX rfl 24 _ _ rfl (w.heap.size+1) #[.int .i64 T.k,.string T.t,.int .i64 0,.string ⟨#[]⟩,v] rfl rfl 24 aB (aa HX) eT rfl (by rw[←(aa HU).1];exact ik U) ?_)
    | fail)
   (try simp only[Exit.inBlock,Exit.then])
   refine ck (dT rfl _ _ (w.heap.size+1) 24 #[.int .i64 T.k,.string T.t,.int .i64 0,.string ⟨#[]⟩,v] (0,0) _ rfl (cm _ _ _ _ _ _ (aa HX)) underlying24 rfl eT) rfl ?_;exact⟨⟨U,by have h:=(aa HU).1;unfold ai at h;rw[h],(aa HU).2.1,((aa HU).2.2.setRow (by omega) _).mono (by omega)⟩,eL (aa HK).bel _ (by omega) _⟩
theorem ND {T:PT} (ih:∀i,i < T.len→oB (T.kid i)) (hc:T.k=2):oB T:=by
 intro w hT aA;have HA:=ab hT;have gV:=ab aA;have gY:=ab (iV aA).2;have IH:=ab ih;have eR:Hid (T.len≤4096):=ab (by have:=wQ T.k;have:=(oz (iV aA).1).2.2.2.2.2;omega)
 have jg:Hid (⟨#[]⟩=if T.k=1 then T.t else ByteArray.empty):=ab (by rw[ac (by omega)];rfl)
 have dl:Hid (T.n=if T.k=2 then T.n else 0):=ab (by rw[af hc])
 have eJ:Hid (⟨#[]⟩=if bW T.k=true then T.nm else ByteArray.empty):=ab (by rw[ac (by unfold bW;simp;omega)];rfl)
 have e1:(T.k==1)=false:=bn;have e2:(T.k==2)=true:=bt;obtain⟨W,hW⟩:∃W,W=((w.alloc (.cells (ai T) 24)).alloc (.cells aB 24)).alloc (.cells #[.int .i64 T.k,.string ⟨#[]⟩,.int .i64 T.n,.string ⟨#[]⟩,.slice none 0 0] 24):=⟨_,rfl⟩;have HB:Hid (Below w.heap.size w W):=ab (by rw[hW];exact((ba _).alloc (by simp) _).alloc (by simp;omega) _)
 have HO:Hid (W.heap[w.heap.size+1+1]? =some (.cells #[.int .i64 T.k,.string ⟨#[]⟩,.int .i64 T.n,.string ⟨#[]⟩,.slice none 0 0] 24 (0,0))):=ab (by rw[hW];exact aw (by simp))
 have HX:Hid (W.heap[w.heap.size+1]? =some (.cells aB 24 (0,0))):=ab (by rw[hW];exact bL (by simp) (aw (by simp)))
 have HP:Hid (W.heap[w.heap.size]? =some (.cells (ai T) 24 (0,0))):=ab (by rw[hW];exact bL (by simp;omega) (bL (by simp) (aw rfl)))
 have HW:=ab hW;have rY:¬w.heap.size=w.heap.size+1+1:=by omega
 have rX:¬w.heap.size+1+1=w.heap.size:=by omega
 clear hT aA ih hW hc;unfold pv;go_enter func28,ntmps28;go_wp2_with fail;rw[show ((w.alloc (.cells #[.int .i64 T.k,.string T.t,.int .i64 T.n,.string T.nm,.slice T.xa T.len T.cap] 24)).alloc (.cells #[.int .i64 0,.string ⟨#[]⟩,.int .i64 0,.string ⟨#[]⟩,.slice none 0 0] 24)).alloc (.cells #[.int .i64 T.k,.string ⟨#[]⟩,.int .i64 T.n,.string ⟨#[]⟩,.slice none 0 0] 24)=W from (aa HW).symm];clear HW;have aD:Hid (XBre w T ⟨#[]⟩ T.n ⟨#[]⟩ W (.slice none 0 0) 0 []):=ab (⟨aa HP,aa HX,aa HO,aa HB,KidsX.nil⟩);clear HP HX HO HB;go_loopw [31] (fun x wr=>∃(k:Nat) (v:Value) (L:List PT),k≤T.len∧x=.int .i64 (k:Int)∧Hid (XBre w T ⟨#[]⟩ T.n ⟨#[]⟩ wr v k L)) (fun x _=>T.len - (intOf x).toNat)
 case atStart=>exact⟨0,_,[],cU _,rfl,aa aD⟩
 case round=>
  obtain⟨k,v,L,hk,rfl,HK⟩:=hrel;clear aD;have js:=aa eR;rcases cX k T.len with au | jc
  ·have g1:(k:Int) < (T.len:Int):=by omega
   have lm:=mu (aa HA) au;have bA:=(aa HA).cells au;unfold PT.kv at bA;have HC:=ab (fun W (hb:Below w.heap.size w W)=>aa IH k au W (PT.In.later hb ((aa HA).kids au)) (aa gY k au))
   have cd:=(fun (i:Nat) (x:Value) (h:w.cell? ⟨T.b,i,none⟩=some x)=>av (aa HK).bel h)
   have a0:=cd _ _ bA.1;have a1:=cd _ _ bA.2.1;have a2:=cd _ _ bA.2.2.1;have a3:=cd _ _ bA.2.2.2.1;have a4:=cd _ _ bA.2.2.2.2;clear cd bA;obtain⟨P,hP⟩:∃P,T.kid k=P:=⟨_,rfl⟩;rw[hP] at HC a0 a1 a2 a3 a4;have kz:=ab hP;clear hP;unfold pv at HC;have hb3:Below wr.heap.size wr (wr.alloc (.cells (ai P) 24)):=ba _;have hq:(wr.alloc (.cells (ai P) 24)).heap[wr.heap.size]? =some (.cells (ai P) 24 (0,0)):=aw rfl;have kA:=ab (am (aa HK).out hb3);have aq:=ab hb3;have dZ:=ab hq;go_wp2_with fail;rw[show (#[.int .i64 P.k,.string P.t,.int .i64 P.n,.string P.nm,.slice P.xa P.len P.cap]:Array Value)=ai P from rfl];generalize (wr.alloc (.cells (ai P) 24))=w3 at *;obtain⟨q0,q1,q2,q3,q4⟩:=dD (aa dZ);obtain⟨o0,o1,o2,o3,o4⟩:=dD (aa kA);clear hq hb3 a0 a1 a2 a3 a4 o0 o1 o2 o3;have dR:=ab (aa HK).lt;obtain⟨S0,aO⟩:∃S0:World→Prop,S0=fun w'=>w'.cell? ⟨w.heap.size+1+1,4,none⟩=some v∧w'.cell? ⟨wr.heap.size,0,none⟩=some (.int .i64 P.k)∧w'.cell? ⟨wr.heap.size,1,none⟩=some (.string P.t)∧w'.cell? ⟨wr.heap.size,2,none⟩=some (.int .i64 P.n)∧w'.cell? ⟨wr.heap.size,3,none⟩=some (.string P.nm)∧w'.cell? ⟨wr.heap.size,4,none⟩=some (.slice P.xa P.len P.cap):=⟨_,rfl⟩
   have ao:=ab aO;have hS:S0 w3.drew:=by rw[aO];exact⟨o4,q0,q1,q2,q3,q4⟩
   have aU:Hid (∀W,Below w3.heap.size w3 W→S0 W):=ab (fun W h=>by rw[aO];exact⟨av h o4,av h q0,av h q1,av h q2,av h q3,av h q4⟩)
   clear aO;refine gZ 7 S0 ?_;intro F;refine aK F 0 ao hS ?_
   (try go_frame)
   refine aK F 1 ao hS ?_
   (try go_frame)
   refine aK F 2 ao hS ?_
   (try go_frame)
   refine cg 3 (fun K3 cO=> ?_)
   go_simp;have ko:Below w.heap.size w w3.drew:=(ap (aa HK).bel (aa aq)).drew;refine(aa HC _ ko).mono ?_;rintro e w4 ⟨⟨U,rfl,hU,hL⟩,hb4⟩;have hb4':Below w3.heap.size w3 w4:=ap (aW _ _).drew hb4;refine cO _ _ (aa aU _ hb4') ?_;refine cg 4 (fun K4 bH=> ?_)
   (try unfold pv)
   go_simp;have hb5:Below w4.heap.size w4 (w4.alloc (.cells (ai U) 24)):=ba _;refine bH _ _ (aa aU _ (ap hb4' hb5)) ?_;refine cg 5 (fun K5 dP=> ?_)
   have dw:cc (w4.alloc (.cells (ai U) 24)) (w.heap.size+1+1+1) 24 5 eO v L:=((aa HK).kids.row.later (aa aq)).later (ap hb4' hb5);have sf:=(aa HK).len hk;refine ql underlying22 wc rfl (by decide) (by decide) jh nK rfl (.tmp 36) (.tmp 39) rfl dw (by rw[eu];have:=aa dR;have:=hb4'.size;have:=(aa aq).size;omega) U w4.heap.size 1 rfl rfl vQ (by have:=aa eR;omega) ?_
   intro v' w6 aV bS dX;have ef:=ab ((aa HK).put au (aa aq) hb4' (by rw[hU,aa kz]) hL aV bS dX)
   have hfz:=cT w6 (w.heap.size+1+1) 4 _ _ (show w6.heap[w.heap.size+1+1]? =_ from ox dw bS (am (am (aa HK).out (aa aq)) (ap hb4' hb5)) (by omega))
   have gq:=(dD (show w6.heap[w.heap.size+1+1]? =_ from ox dw bS (am (am (aa HK).out (aa aq)) (ap hb4' hb5)) (by omega))).2.2.2.2
   have dQ:Hid (S0 w6):=ab (by
    rw[aa ao];have dV:w6.heap[wr.heap.size]? =_:=(bS.block wr.heap.size (i6 (bC.1 (aa dZ)).1 (ap hb4' hb5).size) (fun e=>by have h1:=((aa HK).kids.row.low e.symm).2;omega)).trans (am (aa dZ) (ap hb4' hb5))
    obtain⟨z0,z1,z2,z3,z4⟩:=dD dV;exact⟨gq,z0,z1,z2,z3,z4⟩)
   obtain⟨g6,cap6,eg, -, -⟩:=aV.form (by simp)
   generalize (L++[U]).length=n6 at eg;subst eg;refine dP _ _ (aa dQ) ?_;refine cg 6 (fun K6 gx=> ?_)
   go_simp;refine gx _ _ (aa dQ) ?_;refine g5 (by kernel_rfl) rfl (by kernel_rfl) (fun K7 gu=> ?_)
   clear aV bS dX dw hb5 hb4 hb4' hL hU hS q0 q1 q2 q3 q4 o4;go_simp;refine gu _ _ ?_
   (try simp only[aH,aP,aG])
   (try go_frame)
   clear gu gx dP bH cO K7 K6 K5 K4 K3 F ao aU gq hfz;go_wp2_with fail;exact⟨⟨k+1,_,L++[U],by omega,rfl,aa ef⟩,by simp[intOf];omega⟩
  ·obtain rfl:k=T.len:=by omega
   have g1:¬(T.len:Int) < (T.len:Int):=by omega
   obtain⟨U,gt,eh,gr⟩:=(aa HK).fin (aa HA) (aa gV) (aa jg) (aa dl) (aa eJ);obtain⟨o0,o1,o2,o3,o4⟩:=dD (aa HK).out;have HX:=ab (aa HK).box;have HU:=ab (And.intro gt (And.intro eh gr));have ay:=(aa HK).lt;clear gt eh gr;go_wp2_with (first
    | (refine aX rfl 24 _ _ rfl (w.heap.size+1) #[.int .i64 T.k,.string ⟨#[]⟩,.int .i64 T.n,.string ⟨#[]⟩,v] rfl rfl 24 aB (aa HX) eT rfl (by rw[←(aa HU).1];exact ik U) ?_)
    | fail)
   (try simp only[Exit.inBlock,Exit.then])
   refine ck (dT rfl _ _ (w.heap.size+1) 24 #[.int .i64 T.k,.string ⟨#[]⟩,.int .i64 T.n,.string ⟨#[]⟩,v] (0,0) _ rfl (cm _ _ _ _ _ _ (aa HX)) underlying24 rfl eT) rfl ?_;exact⟨⟨U,by have h:=(aa HU).1;unfold ai at h;rw[h],(aa HU).2.1,((aa HU).2.2.setRow (by omega) _).mono (by omega)⟩,eL (aa HK).bel _ (by omega) _⟩
theorem Kw {T:PT} (ih:∀i,i < T.len→oB (T.kid i)) (hc:T.k=3):oB T:=by
 intro w hT aA;have HA:=ab hT;have gV:=ab aA;have gY:=ab (iV aA).2;have IH:=ab ih;have eR:Hid (T.len≤4096):=ab (by have:=wQ T.k;have:=(oz (iV aA).1).2.2.2.2.2;omega)
 have jg:Hid (⟨#[]⟩=if T.k=1 then T.t else ByteArray.empty):=ab (by rw[ac (by omega)];rfl)
 have dl:Hid (0=if T.k=2 then T.n else 0):=ab (by rw[ac (by omega)])
 have eJ:Hid (T.nm=if bW T.k=true then T.nm else ByteArray.empty):=ab (by rw[af (by unfold bW;exact eW (by omega))])
 have e1:(T.k==1)=false:=bn;have e2:(T.k==2)=false:=bn;have e3:(T.k==3)=true:=bt;obtain⟨W,hW⟩:∃W,W=((w.alloc (.cells (ai T) 24)).alloc (.cells aB 24)).alloc (.cells #[.int .i64 T.k,.string ⟨#[]⟩,.int .i64 0,.string T.nm,.slice none 0 0] 24):=⟨_,rfl⟩;have HB:Hid (Below w.heap.size w W):=ab (by rw[hW];exact((ba _).alloc (by simp) _).alloc (by simp;omega) _)
 have HO:Hid (W.heap[w.heap.size+1+1]? =some (.cells #[.int .i64 T.k,.string ⟨#[]⟩,.int .i64 0,.string T.nm,.slice none 0 0] 24 (0,0))):=ab (by rw[hW];exact aw (by simp))
 have HX:Hid (W.heap[w.heap.size+1]? =some (.cells aB 24 (0,0))):=ab (by rw[hW];exact bL (by simp) (aw (by simp)))
 have HP:Hid (W.heap[w.heap.size]? =some (.cells (ai T) 24 (0,0))):=ab (by rw[hW];exact bL (by simp;omega) (bL (by simp) (aw rfl)))
 have HW:=ab hW;have rY:¬w.heap.size=w.heap.size+1+1:=by omega
 have rX:¬w.heap.size+1+1=w.heap.size:=by omega
 clear hT aA ih hW hc;unfold pv;go_enter func28,ntmps28;go_wp2_with fail;rw[show ((w.alloc (.cells #[.int .i64 T.k,.string T.t,.int .i64 T.n,.string T.nm,.slice T.xa T.len T.cap] 24)).alloc (.cells #[.int .i64 0,.string ⟨#[]⟩,.int .i64 0,.string ⟨#[]⟩,.slice none 0 0] 24)).alloc (.cells #[.int .i64 T.k,.string ⟨#[]⟩,.int .i64 0,.string T.nm,.slice none 0 0] 24)=W from (aa HW).symm];clear HW;have aD:Hid (XBre w T ⟨#[]⟩ 0 T.nm W (.slice none 0 0) 0 []):=ab (⟨aa HP,aa HX,aa HO,aa HB,KidsX.nil⟩);clear HP HX HO HB;go_loopw [31] (fun x wr=>∃(k:Nat) (v:Value) (L:List PT),k≤T.len∧x=.int .i64 (k:Int)∧Hid (XBre w T ⟨#[]⟩ 0 T.nm wr v k L)) (fun x _=>T.len - (intOf x).toNat)
 case atStart=>exact⟨0,_,[],cU _,rfl,aa aD⟩
 case round=>
  obtain⟨k,v,L,hk,rfl,HK⟩:=hrel;clear aD;have js:=aa eR;rcases cX k T.len with au | jc
  ·have g1:(k:Int) < (T.len:Int):=by omega
   have lm:=mu (aa HA) au;have bA:=(aa HA).cells au;unfold PT.kv at bA;have HC:=ab (fun W (hb:Below w.heap.size w W)=>aa IH k au W (PT.In.later hb ((aa HA).kids au)) (aa gY k au))
   have cd:=(fun (i:Nat) (x:Value) (h:w.cell? ⟨T.b,i,none⟩=some x)=>av (aa HK).bel h)
   have a0:=cd _ _ bA.1;have a1:=cd _ _ bA.2.1;have a2:=cd _ _ bA.2.2.1;have a3:=cd _ _ bA.2.2.2.1;have a4:=cd _ _ bA.2.2.2.2;clear cd bA;obtain⟨P,hP⟩:∃P,T.kid k=P:=⟨_,rfl⟩;rw[hP] at HC a0 a1 a2 a3 a4;have kz:=ab hP;clear hP;unfold pv at HC;have hb3:Below wr.heap.size wr (wr.alloc (.cells (ai P) 24)):=ba _;have hq:(wr.alloc (.cells (ai P) 24)).heap[wr.heap.size]? =some (.cells (ai P) 24 (0,0)):=aw rfl;have kA:=ab (am (aa HK).out hb3);have aq:=ab hb3;have dZ:=ab hq;go_wp2_with fail;rw[show (#[.int .i64 P.k,.string P.t,.int .i64 P.n,.string P.nm,.slice P.xa P.len P.cap]:Array Value)=ai P from rfl];generalize (wr.alloc (.cells (ai P) 24))=w3 at *;obtain⟨q0,q1,q2,q3,q4⟩:=dD (aa dZ);obtain⟨o0,o1,o2,o3,o4⟩:=dD (aa kA);clear hq hb3 a0 a1 a2 a3 a4 o0 o1 o2 o3;have dR:=ab (aa HK).lt;obtain⟨S0,aO⟩:∃S0:World→Prop,S0=fun w'=>w'.cell? ⟨w.heap.size+1+1,4,none⟩=some v∧w'.cell? ⟨wr.heap.size,0,none⟩=some (.int .i64 P.k)∧w'.cell? ⟨wr.heap.size,1,none⟩=some (.string P.t)∧w'.cell? ⟨wr.heap.size,2,none⟩=some (.int .i64 P.n)∧w'.cell? ⟨wr.heap.size,3,none⟩=some (.string P.nm)∧w'.cell? ⟨wr.heap.size,4,none⟩=some (.slice P.xa P.len P.cap):=⟨_,rfl⟩
   have ao:=ab aO;have hS:S0 w3.drew:=by rw[aO];exact⟨o4,q0,q1,q2,q3,q4⟩
   have aU:Hid (∀W,Below w3.heap.size w3 W→S0 W):=ab (fun W h=>by rw[aO];exact⟨av h o4,av h q0,av h q1,av h q2,av h q3,av h q4⟩)
   clear aO;refine gZ 7 S0 ?_;intro F;refine aK F 0 ao hS ?_
   (try go_frame)
   refine aK F 1 ao hS ?_
   (try go_frame)
   refine aK F 2 ao hS ?_
   (try go_frame)
   refine cg 3 (fun K3 cO=> ?_)
   go_simp;have ko:Below w.heap.size w w3.drew:=(ap (aa HK).bel (aa aq)).drew;refine(aa HC _ ko).mono ?_;rintro e w4 ⟨⟨U,rfl,hU,hL⟩,hb4⟩;have hb4':Below w3.heap.size w3 w4:=ap (aW _ _).drew hb4;refine cO _ _ (aa aU _ hb4') ?_;refine cg 4 (fun K4 bH=> ?_)
   (try unfold pv)
   go_simp;have hb5:Below w4.heap.size w4 (w4.alloc (.cells (ai U) 24)):=ba _;refine bH _ _ (aa aU _ (ap hb4' hb5)) ?_;refine cg 5 (fun K5 dP=> ?_)
   have dw:cc (w4.alloc (.cells (ai U) 24)) (w.heap.size+1+1+1) 24 5 eO v L:=((aa HK).kids.row.later (aa aq)).later (ap hb4' hb5);have sf:=(aa HK).len hk;refine ql underlying22 wc rfl (by decide) (by decide) jh nK rfl (.tmp 36) (.tmp 39) rfl dw (by rw[eu];have:=aa dR;have:=hb4'.size;have:=(aa aq).size;omega) U w4.heap.size 1 rfl rfl vQ (by have:=aa eR;omega) ?_
   intro v' w6 aV bS dX;have ef:=ab ((aa HK).put au (aa aq) hb4' (by rw[hU,aa kz]) hL aV bS dX)
   have hfz:=cT w6 (w.heap.size+1+1) 4 _ _ (show w6.heap[w.heap.size+1+1]? =_ from ox dw bS (am (am (aa HK).out (aa aq)) (ap hb4' hb5)) (by omega))
   have gq:=(dD (show w6.heap[w.heap.size+1+1]? =_ from ox dw bS (am (am (aa HK).out (aa aq)) (ap hb4' hb5)) (by omega))).2.2.2.2
   have dQ:Hid (S0 w6):=ab (by
    rw[aa ao];have dV:w6.heap[wr.heap.size]? =_:=(bS.block wr.heap.size (i6 (bC.1 (aa dZ)).1 (ap hb4' hb5).size) (fun e=>by have h1:=((aa HK).kids.row.low e.symm).2;omega)).trans (am (aa dZ) (ap hb4' hb5))
    obtain⟨z0,z1,z2,z3,z4⟩:=dD dV;exact⟨gq,z0,z1,z2,z3,z4⟩)
   obtain⟨g6,cap6,eg, -, -⟩:=aV.form (by simp)
   generalize (L++[U]).length=n6 at eg;subst eg;refine dP _ _ (aa dQ) ?_;refine cg 6 (fun K6 gx=> ?_)
   go_simp;refine gx _ _ (aa dQ) ?_;refine g5 (by kernel_rfl) rfl (by kernel_rfl) (fun K7 gu=> ?_)
   clear aV bS dX dw hb5 hb4 hb4' hL hU hS q0 q1 q2 q3 q4 o4;go_simp;refine gu _ _ ?_
   (try simp only[aH,aP,aG])
   (try go_frame)
   clear gu gx dP bH cO K7 K6 K5 K4 K3 F ao aU gq hfz;go_wp2_with fail;exact⟨⟨k+1,_,L++[U],by omega,rfl,aa ef⟩,by simp[intOf];omega⟩
  ·obtain rfl:k=T.len:=by omega
   have g1:¬(T.len:Int) < (T.len:Int):=by omega
   obtain⟨U,gt,eh,gr⟩:=(aa HK).fin (aa HA) (aa gV) (aa jg) (aa dl) (aa eJ);obtain⟨o0,o1,o2,o3,o4⟩:=dD (aa HK).out;have HX:=ab (aa HK).box;have HU:=ab (And.intro gt (And.intro eh gr));have ay:=(aa HK).lt;clear gt eh gr;go_wp2_with (first
    | (refine aX rfl 24 _ _ rfl (w.heap.size+1) #[.int .i64 T.k,.string ⟨#[]⟩,.int .i64 0,.string T.nm,v] rfl rfl 24 aB (aa HX) eT rfl (by rw[←(aa HU).1];exact ik U) ?_)
    | fail)
   (try simp only[Exit.inBlock,Exit.then])
   refine ck (dT rfl _ _ (w.heap.size+1) 24 #[.int .i64 T.k,.string ⟨#[]⟩,.int .i64 0,.string T.nm,v] (0,0) _ rfl (cm _ _ _ _ _ _ (aa HX)) underlying24 rfl eT) rfl ?_;exact⟨⟨U,by have h:=(aa HU).1;unfold ai at h;rw[h],(aa HU).2.1,((aa HU).2.2.setRow (by omega) _).mono (by omega)⟩,eL (aa HK).bel _ (by omega) _⟩
theorem Kv {T:PT} (ih:∀i,i < T.len→oB (T.kid i)) (hc:T.k=4):oB T:=by
 intro w hT aA;have HA:=ab hT;have gV:=ab aA;have gY:=ab (iV aA).2;have IH:=ab ih;have eR:Hid (T.len≤4096):=ab (by have:=wQ T.k;have:=(oz (iV aA).1).2.2.2.2.2;omega)
 have jg:Hid (⟨#[]⟩=if T.k=1 then T.t else ByteArray.empty):=ab (by rw[ac (by omega)];rfl)
 have dl:Hid (0=if T.k=2 then T.n else 0):=ab (by rw[ac (by omega)])
 have eJ:Hid (T.nm=if bW T.k=true then T.nm else ByteArray.empty):=ab (by rw[af (by unfold bW;exact eW (by omega))])
 have e1:(T.k==1)=false:=bn;have e2:(T.k==2)=false:=bn;have e3:(T.k==3)=false:=bn;have e4:(T.k==4)=true:=bt;obtain⟨W,hW⟩:∃W,W=((w.alloc (.cells (ai T) 24)).alloc (.cells aB 24)).alloc (.cells #[.int .i64 T.k,.string ⟨#[]⟩,.int .i64 0,.string T.nm,.slice none 0 0] 24):=⟨_,rfl⟩;have HB:Hid (Below w.heap.size w W):=ab (by rw[hW];exact((ba _).alloc (by simp) _).alloc (by simp;omega) _)
 have HO:Hid (W.heap[w.heap.size+1+1]? =some (.cells #[.int .i64 T.k,.string ⟨#[]⟩,.int .i64 0,.string T.nm,.slice none 0 0] 24 (0,0))):=ab (by rw[hW];exact aw (by simp))
 have HX:Hid (W.heap[w.heap.size+1]? =some (.cells aB 24 (0,0))):=ab (by rw[hW];exact bL (by simp) (aw (by simp)))
 have HP:Hid (W.heap[w.heap.size]? =some (.cells (ai T) 24 (0,0))):=ab (by rw[hW];exact bL (by simp;omega) (bL (by simp) (aw rfl)))
 have HW:=ab hW;have rY:¬w.heap.size=w.heap.size+1+1:=by omega
 have rX:¬w.heap.size+1+1=w.heap.size:=by omega
 clear hT aA ih hW hc;unfold pv;go_enter func28,ntmps28;go_wp2_with fail;rw[show ((w.alloc (.cells #[.int .i64 T.k,.string T.t,.int .i64 T.n,.string T.nm,.slice T.xa T.len T.cap] 24)).alloc (.cells #[.int .i64 0,.string ⟨#[]⟩,.int .i64 0,.string ⟨#[]⟩,.slice none 0 0] 24)).alloc (.cells #[.int .i64 T.k,.string ⟨#[]⟩,.int .i64 0,.string T.nm,.slice none 0 0] 24)=W from (aa HW).symm];clear HW;have aD:Hid (XBre w T ⟨#[]⟩ 0 T.nm W (.slice none 0 0) 0 []):=ab (⟨aa HP,aa HX,aa HO,aa HB,KidsX.nil⟩);clear HP HX HO HB;go_loopw [31] (fun x wr=>∃(k:Nat) (v:Value) (L:List PT),k≤T.len∧x=.int .i64 (k:Int)∧Hid (XBre w T ⟨#[]⟩ 0 T.nm wr v k L)) (fun x _=>T.len - (intOf x).toNat)
 case atStart=>exact⟨0,_,[],cU _,rfl,aa aD⟩
 case round=>
  obtain⟨k,v,L,hk,rfl,HK⟩:=hrel;clear aD;have js:=aa eR;rcases cX k T.len with au | jc
  ·have g1:(k:Int) < (T.len:Int):=by omega
   have lm:=mu (aa HA) au;have bA:=(aa HA).cells au;unfold PT.kv at bA;have HC:=ab (fun W (hb:Below w.heap.size w W)=>aa IH k au W (PT.In.later hb ((aa HA).kids au)) (aa gY k au))
   have cd:=(fun (i:Nat) (x:Value) (h:w.cell? ⟨T.b,i,none⟩=some x)=>av (aa HK).bel h)
   have a0:=cd _ _ bA.1;have a1:=cd _ _ bA.2.1;have a2:=cd _ _ bA.2.2.1;have a3:=cd _ _ bA.2.2.2.1;have a4:=cd _ _ bA.2.2.2.2;clear cd bA;obtain⟨P,hP⟩:∃P,T.kid k=P:=⟨_,rfl⟩;rw[hP] at HC a0 a1 a2 a3 a4;have kz:=ab hP;clear hP;unfold pv at HC;have hb3:Below wr.heap.size wr (wr.alloc (.cells (ai P) 24)):=ba _;have hq:(wr.alloc (.cells (ai P) 24)).heap[wr.heap.size]? =some (.cells (ai P) 24 (0,0)):=aw rfl;have kA:=ab (am (aa HK).out hb3);have aq:=ab hb3;have dZ:=ab hq;go_wp2_with fail;rw[show (#[.int .i64 P.k,.string P.t,.int .i64 P.n,.string P.nm,.slice P.xa P.len P.cap]:Array Value)=ai P from rfl];generalize (wr.alloc (.cells (ai P) 24))=w3 at *;obtain⟨q0,q1,q2,q3,q4⟩:=dD (aa dZ);obtain⟨o0,o1,o2,o3,o4⟩:=dD (aa kA);clear hq hb3 a0 a1 a2 a3 a4 o0 o1 o2 o3;have dR:=ab (aa HK).lt;obtain⟨S0,aO⟩:∃S0:World→Prop,S0=fun w'=>w'.cell? ⟨w.heap.size+1+1,4,none⟩=some v∧w'.cell? ⟨wr.heap.size,0,none⟩=some (.int .i64 P.k)∧w'.cell? ⟨wr.heap.size,1,none⟩=some (.string P.t)∧w'.cell? ⟨wr.heap.size,2,none⟩=some (.int .i64 P.n)∧w'.cell? ⟨wr.heap.size,3,none⟩=some (.string P.nm)∧w'.cell? ⟨wr.heap.size,4,none⟩=some (.slice P.xa P.len P.cap):=⟨_,rfl⟩
   have ao:=ab aO;have hS:S0 w3.drew:=by rw[aO];exact⟨o4,q0,q1,q2,q3,q4⟩
   have aU:Hid (∀W,Below w3.heap.size w3 W→S0 W):=ab (fun W h=>by rw[aO];exact⟨av h o4,av h q0,av h q1,av h q2,av h q3,av h q4⟩)
   clear aO;refine gZ 7 S0 ?_;intro F;refine aK F 0 ao hS ?_
   (try go_frame)
   refine aK F 1 ao hS ?_
   (try go_frame)
   refine aK F 2 ao hS ?_
   (try go_frame)
   refine cg 3 (fun K3 cO=> ?_)
   go_simp;have ko:Below w.heap.size w w3.drew:=(ap (aa HK).bel (aa aq)).drew;refine(aa HC _ ko).mono ?_;rintro e w4 ⟨⟨U,rfl,hU,hL⟩,hb4⟩;have hb4':Below w3.heap.size w3 w4:=ap (aW _ _).drew hb4;refine cO _ _ (aa aU _ hb4') ?_;refine cg 4 (fun K4 bH=> ?_)
   (try unfold pv)
   go_simp;have hb5:Below w4.heap.size w4 (w4.alloc (.cells (ai U) 24)):=ba _;refine bH _ _ (aa aU _ (ap hb4' hb5)) ?_;refine cg 5 (fun K5 dP=> ?_)
   have dw:cc (w4.alloc (.cells (ai U) 24)) (w.heap.size+1+1+1) 24 5 eO v L:=((aa HK).kids.row.later (aa aq)).later (ap hb4' hb5);have sf:=(aa HK).len hk;refine ql underlying22 wc rfl (by decide) (by decide) jh nK rfl (.tmp 36) (.tmp 39) rfl dw (by rw[eu];have:=aa dR;have:=hb4'.size;have:=(aa aq).size;omega) U w4.heap.size 1 rfl rfl vQ (by have:=aa eR;omega) ?_
   intro v' w6 aV bS dX;have ef:=ab ((aa HK).put au (aa aq) hb4' (by rw[hU,aa kz]) hL aV bS dX)
   have hfz:=cT w6 (w.heap.size+1+1) 4 _ _ (show w6.heap[w.heap.size+1+1]? =_ from ox dw bS (am (am (aa HK).out (aa aq)) (ap hb4' hb5)) (by omega))
   have gq:=(dD (show w6.heap[w.heap.size+1+1]? =_ from ox dw bS (am (am (aa HK).out (aa aq)) (ap hb4' hb5)) (by omega))).2.2.2.2
   have dQ:Hid (S0 w6):=ab (by
    rw[aa ao];have dV:w6.heap[wr.heap.size]? =_:=(bS.block wr.heap.size (i6 (bC.1 (aa dZ)).1 (ap hb4' hb5).size) (fun e=>by have h1:=((aa HK).kids.row.low e.symm).2;omega)).trans (am (aa dZ) (ap hb4' hb5))
    obtain⟨z0,z1,z2,z3,z4⟩:=dD dV;exact⟨gq,z0,z1,z2,z3,z4⟩)
   obtain⟨g6,cap6,eg, -, -⟩:=aV.form (by simp)
   generalize (L++[U]).length=n6 at eg;subst eg;refine dP _ _ (aa dQ) ?_;refine cg 6 (fun K6 gx=> ?_)
   go_simp;refine gx _ _ (aa dQ) ?_;refine g5 (by kernel_rfl) rfl (by kernel_rfl) (fun K7 gu=> ?_)
   clear aV bS dX dw hb5 hb4 hb4' hL hU hS q0 q1 q2 q3 q4 o4;go_simp;refine gu _ _ ?_
   (try simp only[aH,aP,aG])
   (try go_frame)
   clear gu gx dP bH cO K7 K6 K5 K4 K3 F ao aU gq hfz;go_wp2_with fail;exact⟨⟨k+1,_,L++[U],by omega,rfl,aa ef⟩,by simp[intOf];omega⟩
  ·obtain rfl:k=T.len:=by omega
   have g1:¬(T.len:Int) < (T.len:Int):=by omega
   obtain⟨U,gt,eh,gr⟩:=(aa HK).fin (aa HA) (aa gV) (aa jg) (aa dl) (aa eJ);obtain⟨o0,o1,o2,o3,o4⟩:=dD (aa HK).out;have HX:=ab (aa HK).box;have HU:=ab (And.intro gt (And.intro eh gr));have ay:=(aa HK).lt;clear gt eh gr;go_wp2_with (first
    | (refine aX rfl 24 _ _ rfl (w.heap.size+1) #[.int .i64 T.k,.string ⟨#[]⟩,.int .i64 0,.string T.nm,v] rfl rfl 24 aB (aa HX) eT rfl (by rw[←(aa HU).1];exact ik U) ?_)
    | fail)
   (try simp only[Exit.inBlock,Exit.then])
   refine ck (dT rfl _ _ (w.heap.size+1) 24 #[.int .i64 T.k,.string ⟨#[]⟩,.int .i64 0,.string T.nm,v] (0,0) _ rfl (cm _ _ _ _ _ _ (aa HX)) underlying24 rfl eT) rfl ?_;exact⟨⟨U,by have h:=(aa HU).1;unfold ai at h;rw[h],(aa HU).2.1,((aa HU).2.2.setRow (by omega) _).mono (by omega)⟩,eL (aa HK).bel _ (by omega) _⟩
theorem Ku {T:PT} (ih:∀i,i < T.len→oB (T.kid i)) (hc:T.k=6):oB T:=by
 intro w hT aA;have HA:=ab hT;have gV:=ab aA;have gY:=ab (iV aA).2;have IH:=ab ih;have eR:Hid (T.len≤4096):=ab (by have:=wQ T.k;have:=(oz (iV aA).1).2.2.2.2.2;omega)
 have jg:Hid (⟨#[]⟩=if T.k=1 then T.t else ByteArray.empty):=ab (by rw[ac (by omega)];rfl)
 have dl:Hid (0=if T.k=2 then T.n else 0):=ab (by rw[ac (by omega)])
 have eJ:Hid (T.nm=if bW T.k=true then T.nm else ByteArray.empty):=ab (by rw[af (by unfold bW;exact eW (by omega))])
 have e1:(T.k==1)=false:=bn;have e2:(T.k==2)=false:=bn;have e3:(T.k==3)=false:=bn;have e4:(T.k==4)=false:=bn;have e6:(T.k==6)=true:=bt;obtain⟨W,hW⟩:∃W,W=((w.alloc (.cells (ai T) 24)).alloc (.cells aB 24)).alloc (.cells #[.int .i64 T.k,.string ⟨#[]⟩,.int .i64 0,.string T.nm,.slice none 0 0] 24):=⟨_,rfl⟩;have HB:Hid (Below w.heap.size w W):=ab (by rw[hW];exact((ba _).alloc (by simp) _).alloc (by simp;omega) _)
 have HO:Hid (W.heap[w.heap.size+1+1]? =some (.cells #[.int .i64 T.k,.string ⟨#[]⟩,.int .i64 0,.string T.nm,.slice none 0 0] 24 (0,0))):=ab (by rw[hW];exact aw (by simp))
 have HX:Hid (W.heap[w.heap.size+1]? =some (.cells aB 24 (0,0))):=ab (by rw[hW];exact bL (by simp) (aw (by simp)))
 have HP:Hid (W.heap[w.heap.size]? =some (.cells (ai T) 24 (0,0))):=ab (by rw[hW];exact bL (by simp;omega) (bL (by simp) (aw rfl)))
 have HW:=ab hW;have rY:¬w.heap.size=w.heap.size+1+1:=by omega
 have rX:¬w.heap.size+1+1=w.heap.size:=by omega
 clear hT aA ih hW hc;unfold pv;go_enter func28,ntmps28;go_wp2_with fail;rw[show ((w.alloc (.cells #[.int .i64 T.k,.string T.t,.int .i64 T.n,.string T.nm,.slice T.xa T.len T.cap] 24)).alloc (.cells #[.int .i64 0,.string ⟨#[]⟩,.int .i64 0,.string ⟨#[]⟩,.slice none 0 0] 24)).alloc (.cells #[.int .i64 T.k,.string ⟨#[]⟩,.int .i64 0,.string T.nm,.slice none 0 0] 24)=W from (aa HW).symm];clear HW;have aD:Hid (XBre w T ⟨#[]⟩ 0 T.nm W (.slice none 0 0) 0 []):=ab (⟨aa HP,aa HX,aa HO,aa HB,KidsX.nil⟩);clear HP HX HO HB;go_loopw [31] (fun x wr=>∃(k:Nat) (v:Value) (L:List PT),k≤T.len∧x=.int .i64 (k:Int)∧Hid (XBre w T ⟨#[]⟩ 0 T.nm wr v k L)) (fun x _=>T.len - (intOf x).toNat)
 case atStart=>exact⟨0,_,[],cU _,rfl,aa aD⟩
 case round=>
  obtain⟨k,v,L,hk,rfl,HK⟩:=hrel;clear aD;have js:=aa eR;rcases cX k T.len with au | jc
  ·have g1:(k:Int) < (T.len:Int):=by omega
   have lm:=mu (aa HA) au;have bA:=(aa HA).cells au;unfold PT.kv at bA;have HC:=ab (fun W (hb:Below w.heap.size w W)=>aa IH k au W (PT.In.later hb ((aa HA).kids au)) (aa gY k au))
   have cd:=(fun (i:Nat) (x:Value) (h:w.cell? ⟨T.b,i,none⟩=some x)=>av (aa HK).bel h)
   have a0:=cd _ _ bA.1;have a1:=cd _ _ bA.2.1;have a2:=cd _ _ bA.2.2.1;have a3:=cd _ _ bA.2.2.2.1;have a4:=cd _ _ bA.2.2.2.2;clear cd bA;obtain⟨P,hP⟩:∃P,T.kid k=P:=⟨_,rfl⟩;rw[hP] at HC a0 a1 a2 a3 a4;have kz:=ab hP;clear hP;unfold pv at HC;have hb3:Below wr.heap.size wr (wr.alloc (.cells (ai P) 24)):=ba _;have hq:(wr.alloc (.cells (ai P) 24)).heap[wr.heap.size]? =some (.cells (ai P) 24 (0,0)):=aw rfl;have kA:=ab (am (aa HK).out hb3);have aq:=ab hb3;have dZ:=ab hq;go_wp2_with fail;rw[show (#[.int .i64 P.k,.string P.t,.int .i64 P.n,.string P.nm,.slice P.xa P.len P.cap]:Array Value)=ai P from rfl];generalize (wr.alloc (.cells (ai P) 24))=w3 at *;obtain⟨q0,q1,q2,q3,q4⟩:=dD (aa dZ);obtain⟨o0,o1,o2,o3,o4⟩:=dD (aa kA);clear hq hb3 a0 a1 a2 a3 a4 o0 o1 o2 o3;have dR:=ab (aa HK).lt;obtain⟨S0,aO⟩:∃S0:World→Prop,S0=fun w'=>w'.cell? ⟨w.heap.size+1+1,4,none⟩=some v∧w'.cell? ⟨wr.heap.size,0,none⟩=some (.int .i64 P.k)∧w'.cell? ⟨wr.heap.size,1,none⟩=some (.string P.t)∧w'.cell? ⟨wr.heap.size,2,none⟩=some (.int .i64 P.n)∧w'.cell? ⟨wr.heap.size,3,none⟩=some (.string P.nm)∧w'.cell? ⟨wr.heap.size,4,none⟩=some (.slice P.xa P.len P.cap):=⟨_,rfl⟩
   have ao:=ab aO;have hS:S0 w3.drew:=by rw[aO];exact⟨o4,q0,q1,q2,q3,q4⟩
   have aU:Hid (∀W,Below w3.heap.size w3 W→S0 W):=ab (fun W h=>by rw[aO];exact⟨av h o4,av h q0,av h q1,av h q2,av h q3,av h q4⟩)
   clear aO;refine gZ 7 S0 ?_;intro F;refine aK F 0 ao hS ?_
   (try go_frame)
   refine aK F 1 ao hS ?_
   (try go_frame)
   refine aK F 2 ao hS ?_
   (try go_frame)
   refine cg 3 (fun K3 cO=> ?_)
   go_simp;have ko:Below w.heap.size w w3.drew:=(ap (aa HK).bel (aa aq)).drew;refine(aa HC _ ko).mono ?_;rintro e w4 ⟨⟨U,rfl,hU,hL⟩,hb4⟩;have hb4':Below w3.heap.size w3 w4:=ap (aW _ _).drew hb4;refine cO _ _ (aa aU _ hb4') ?_;refine cg 4 (fun K4 bH=> ?_)
   (try unfold pv)
   go_simp;have hb5:Below w4.heap.size w4 (w4.alloc (.cells (ai U) 24)):=ba _;refine bH _ _ (aa aU _ (ap hb4' hb5)) ?_;refine cg 5 (fun K5 dP=> ?_)
   have dw:cc (w4.alloc (.cells (ai U) 24)) (w.heap.size+1+1+1) 24 5 eO v L:=((aa HK).kids.row.later (aa aq)).later (ap hb4' hb5);have sf:=(aa HK).len hk;refine ql underlying22 wc rfl (by decide) (by decide) jh nK rfl (.tmp 36) (.tmp 39) rfl dw (by rw[eu];have:=aa dR;have:=hb4'.size;have:=(aa aq).size;omega) U w4.heap.size 1 rfl rfl vQ (by have:=aa eR;omega) ?_
   intro v' w6 aV bS dX;have ef:=ab ((aa HK).put au (aa aq) hb4' (by rw[hU,aa kz]) hL aV bS dX)
   have hfz:=cT w6 (w.heap.size+1+1) 4 _ _ (show w6.heap[w.heap.size+1+1]? =_ from ox dw bS (am (am (aa HK).out (aa aq)) (ap hb4' hb5)) (by omega))
   have gq:=(dD (show w6.heap[w.heap.size+1+1]? =_ from ox dw bS (am (am (aa HK).out (aa aq)) (ap hb4' hb5)) (by omega))).2.2.2.2
   have dQ:Hid (S0 w6):=ab (by
    rw[aa ao];have dV:w6.heap[wr.heap.size]? =_:=(bS.block wr.heap.size (i6 (bC.1 (aa dZ)).1 (ap hb4' hb5).size) (fun e=>by have h1:=((aa HK).kids.row.low e.symm).2;omega)).trans (am (aa dZ) (ap hb4' hb5))
    obtain⟨z0,z1,z2,z3,z4⟩:=dD dV;exact⟨gq,z0,z1,z2,z3,z4⟩)
   obtain⟨g6,cap6,eg, -, -⟩:=aV.form (by simp)
   generalize (L++[U]).length=n6 at eg;subst eg;refine dP _ _ (aa dQ) ?_;refine cg 6 (fun K6 gx=> ?_)
   go_simp;refine gx _ _ (aa dQ) ?_;refine g5 (by kernel_rfl) rfl (by kernel_rfl) (fun K7 gu=> ?_)
   clear aV bS dX dw hb5 hb4 hb4' hL hU hS q0 q1 q2 q3 q4 o4;go_simp;refine gu _ _ ?_
   (try simp only[aH,aP,aG])
   (try go_frame)
   clear gu gx dP bH cO K7 K6 K5 K4 K3 F ao aU gq hfz;go_wp2_with fail;exact⟨⟨k+1,_,L++[U],by omega,rfl,aa ef⟩,by simp[intOf];omega⟩
  ·obtain rfl:k=T.len:=by omega
   have g1:¬(T.len:Int) < (T.len:Int):=by omega
   obtain⟨U,gt,eh,gr⟩:=(aa HK).fin (aa HA) (aa gV) (aa jg) (aa dl) (aa eJ);obtain⟨o0,o1,o2,o3,o4⟩:=dD (aa HK).out;have HX:=ab (aa HK).box;have HU:=ab (And.intro gt (And.intro eh gr));have ay:=(aa HK).lt;clear gt eh gr;go_wp2_with (first
    | (refine aX rfl 24 _ _ rfl (w.heap.size+1) #[.int .i64 T.k,.string ⟨#[]⟩,.int .i64 0,.string T.nm,v] rfl rfl 24 aB (aa HX) eT rfl (by rw[←(aa HU).1];exact ik U) ?_)
    | fail)
   (try simp only[Exit.inBlock,Exit.then])
   refine ck (dT rfl _ _ (w.heap.size+1) 24 #[.int .i64 T.k,.string ⟨#[]⟩,.int .i64 0,.string T.nm,v] (0,0) _ rfl (cm _ _ _ _ _ _ (aa HX)) underlying24 rfl eT) rfl ?_;exact⟨⟨U,by have h:=(aa HU).1;unfold ai at h;rw[h],(aa HU).2.1,((aa HU).2.2.setRow (by omega) _).mono (by omega)⟩,eL (aa HK).bel _ (by omega) _⟩
theorem FI:∀T:PT,oB T:=PT.ind fun T ih=>by
 intro w hT aA;obtain⟨⟨k1,tG⟩, -⟩:=oz (iV aA).1;rcases (show T.k=1∨T.k=2∨T.k=3∨T.k=4∨T.k=6∨(T.k=5∨7≤T.k) by omega) with h | h | h | h | h | h
 ·exact Me ih h w hT aA
 ·exact ND ih h w hT aA
 ·exact Kw ih h w hT aA
 ·exact Kv ih h w hT aA
 ·exact Ku ih h w hT aA
 ·exact Mf ih h w hT aA
open Go.RowKit
structure Ext (w w':World) (v v':Value):Prop where
 grown:w.grownBy w' v.ownBlock
 lies:v'.ownBlock=v.ownBlock∨∀k,v'.ownBlock=some k→w.heap.size≤k
theorem Ext.below {w w':World} (v:Value) (h:Below w.heap.size w w'):Ext w w' v v:=⟨⟨h.os,h.tape,h.output,h.size,fun k hk _=>h.block k hk⟩,.inl rfl⟩
theorem Ext.trans {a b c:World} {v1 v2 v3:Value} (h:Ext a b v1 v2) (k:Ext b c v2 v3):Ext a c v1 v3:=by
 refine⟨⟨k.grown.os.trans h.grown.os,k.grown.tape.trans h.grown.tape,k.grown.output.trans h.grown.output,bJ h.grown.size k.grown.size,fun i hi bo=> ?_⟩, ?_⟩
 ·refine(k.grown.block i (i6 hi h.grown.size) fun e=> ?_).trans (h.grown.block i hi bo)
  rcases h.lies with x | x
  ·exact bo (e.trans x)
  ·have:=x i e.symm
   omega
 ·rcases k.lies with x | x
  ·rcases h.lies with y | y
   ·exact .inl (x.trans y)
   ·exact .inr fun q hq=>y q (x▸hq)
  ·exact .inr fun q hq=>bJ h.grown.size (x q hq)
theorem Ext.row {w w':World} {v v':Value} (h:Ext w w' v v') {n:Nat} {x:Obj} (hn:some n≠v.ownBlock) (hx:w.heap[n]? =some x):w'.heap[n]? =some x:=
 (h.grown.block n (bC.1 hx).1 hn).trans hx
theorem Ext.bel {w w':World} {v v':Value} {B:Nat} {l:List UInt8} (h:Ext w w' v v') (hv:bm w B v l) (hB:B≤w.heap.size):Below B w w':=
 (aW B w).grown h.grown hB (fun i hi=>(uV hv i hi).1)
theorem bm.apart {w:World} {B:Nat} {v:Value} {l:List UInt8} (h:bm w B v l) {n:Nat} (hn:w.heap.size≤n):some n≠v.ownBlock:=fun e=>by
 have:=(uV h n e.symm).2;omega
theorem EN {w:World} {B:Nat} {v:Value} {l:List UInt8} (h:bm w B v l) (hB:B≤w.heap.size) (s:ByteArray) (hl:l.length+s.size≤100000000) (ty:TypeId):
  ∃v' w',(Builtin.append_ #[48,9] ty #[v,.string s]).run prog w=.ok v' w'∧bm w' B v' (l++s.data.toList)∧Ext w w' v v':=by
 have iB:=yj
 cases hi:prog.info? 5 with
 | none=>simp[hi] at iB
 | some i0=>
  simp only[hi,Option.map_some,yI,nX] at iB;obtain⟨lg,lM,ni⟩:=iB;obtain⟨v',w',hr,h2,h3,h4⟩:=Lib.run_append_own_string (P:=prog) w B 48 9 ty 5 i0 underlying48 underlying9 hi lg lM ni v l.length (l.map bc) h s (by unfold maxLen;omega) (by omega) hB
  have cS:v'.ownBlock=v.ownBlock∨∀k,v'.ownBlock=some k→w.heap.size≤k:=by
   rcases h.2 with ⟨rfl,h0⟩ | ⟨g,cap,cur,rfl,nn,hg,hnc,hcm,kw,htake⟩
   ·by_cases hm:s.size=0
    ·left
     rw[h4.2 ⟨rfl,hm⟩]
    ·right
     have hx:=run_append_nil_string (P:=prog) w 48 9 ty 5 i0 (.int .u8 0) underlying48 underlying9 hi lg s (by omega) (by omega) (by rw[ni];omega)
     rw[hr] at hx;injection hx with e1 e2
     intro k hk;rw[e1] at hk
     cases hk
     exact ax _
   ·by_cases hroom:l.length+s.size≤cap
    ·left
     have hcs':cur.size=cap:=by simpa using kw
     have hx:=Lib.run_append_room_string (P:=prog) w 48 9 ty 5 i0 underlying48 underlying9 hi lM g l.length cap cur hg s hroom (by omega)
     rw[hr] at hx;injection hx with e1 e2
     rw[e1];rfl
    ·right
     have hx:=Lib.run_append_grow_string (P:=prog) w 48 9 ty 5 i0 (.int .u8 0) underlying48 underlying9 hi lg ⟨g,0,none⟩ l.length cap (l.map bc) (by rw[lM];simp) (World.ownsRow.cells h rfl) s (by omega) (by omega) (by rw[ni];exact growslice_fits (by omega) (by omega))
     rw[hr] at hx;injection hx with e1 e2
     intro k hk;rw[e1] at hk
     cases hk
     exact ax _
  refine⟨v',w',hr, ?_,h3,cS⟩;unfold bm;rw[bg,qA];have e1:s.data.toList.length=s.size:=by simp
  rw[e1];exact h2
theorem Mc {w:World} {B:Nat} {v:Value} {l:List UInt8} (h:bm w B v l) (hB:B≤w.heap.size) (b:UInt8) (ad:Addr) (c:Nat) (hc:w.cell? (ad.add 0)=some (bc b)) (hl:l.length+1≤100000000) (ty:TypeId):
  ∃v' w',(Builtin.append_ #[48,48] ty #[v,.slice (some ad) 1 c]).run prog w=.ok v' w'∧bm w' B v' (l++[b])∧Ext w w' v v':=by
 have iB:=yj
 cases hi:prog.info? 5 with
 | none=>simp[hi] at iB
 | some i0=>
  simp only[hi,Option.map_some,yI,nX] at iB;obtain⟨lg,lM,ni⟩:=iB;obtain⟨v',w',hr,h2,h3, -,h5⟩:=run_append_own_at (P:=prog) w B 48 ty 5 i0 (.int .u8 0) 1 1 underlying48 hi lg lM ni rfl (by decide) v l.length (l.map bc) h ad 1 c [bc b] rfl (fun j u hj=>by
   have hj0:j=0:=by have:=(rN.1 hj).1;simpa using this
   subst hj0;have:u=bc b:=by simpa using hj.symm
   rw[this];exact hc) (by intro u hu;rw[fE] at hu;subst hu;rfl) (by unfold maxLen;omega) (by omega) hB
  refine⟨v',w',hr, ?_,h3, ?_⟩
  ·unfold bm
   rw[bg,qA];exact h2
  ·rcases h5 with e | e
   ·exact .inl e
   ·exact .inr fun k hk=>by rw[e] at hk;cases hk;exact ax _
theorem rs {w:World} {ops:Array Oper} {rest:List Oper} {o:Oper} {a:Act} {Q:Exit→Act→World→Prop} (qN:o.guard=none) (sl x:Operand)
  (ho:o.op=.call {callee:=.builtin .append,args:= #[sl,x],argTypes:= #[48,9]})
  (B:Nat) (v:Value) (l:List UInt8) (s:ByteArray) (hs:a.eval sl=v) (hx:a.eval x=.string s) (h:bm w B v l) (hB:B≤w.heap.size) (hl:l.length+s.size≤100000000)
  (hK:∀v' w',bm w' B v' (l++s.data.toList)→Ext w w' v v'→wpList prog ops Q rest (a.put o.dst v') w'):wpList prog ops Q (o::rest) a w:=by
 refine wpList_plain qN fun K hK'=> ?_
 obtain⟨v',w',hr,h1,h2⟩:=EN h hB s hl o.type;unfold Oper.wp execOp;simp only[ho,resolve,invoke,builtin,rT,Sem.run_pure,Result.andThen_ok,pN,ib,kK,hs,hx,hr];exact hK' _ _ (hK v' w' h1 h2)
end Go.Proofs.YtlmnjbipfacniaaGreatDoor
