/- The document's Bare: more kinds. The document's Bare: more k -/
import Derived.Test.YtlmnjbipfacniaaGreatDoorRtBare3M
set_option maxRecDepth 100000
set_option maxHeartbeats 4000000
namespace Go.Proofs.YtlmnjbipfacniaaGreatDoor
open Go.Proofs.Tryz
open Go.RowKit
theorem Mh {T:PT} (ih:∀i,i < T.len→qo (T.kid i)) (hc:T.k=2∨(8≤T.k∧T.k≤11)):qo T:=by
 intro w hT aA;have HA:=ab hT;have gV:=ab aA;have gY:=ab (fR aA).2;have IH:=ab ih;have eR:Hid (T.len≤4096):=ab (by
  obtain⟨-, -, -, -, -, -,gX⟩:=jy (fR aA).1;unfold cD at gX;split at gX
  ·omega
  ·split at gX <;> omega)
 have jg:Hid (⟨#[]⟩=if aE T.k=1 then T.t else ⟨#[]⟩):=ab (by rw[ac (by intro q;unfold aE at q;split at q <;> (try split at q) <;> (try split at q) <;> omega)])
 have dl:Hid (T.n=if aE T.k=2 then T.n else 0):=ab (by rw[af (by unfold aE;rw[ac (by omega),af (by omega)])])
 have eJ:Hid (⟨#[]⟩=if aE T.k=3 then T.nm else ⟨#[]⟩):=ab (by rw[ac (by intro q;unfold aE at q;split at q <;> (try split at q) <;> (try split at q) <;> omega)])
 have e1:(T.k==1)=false:=bn;have HT:Hid (pB T.k=false):=ab (by unfold pB;exact dh (by simp;omega))
 have HN:Hid (pC T.k=true):=ab (by unfold pC;exact eW (by simp;omega))
 have HM:Hid (qt T.k=false):=ab (by unfold qt;exact dh (by simp;omega))
 obtain⟨W,hW⟩:∃W,W=((w.alloc (.cells (ai T) 27)).alloc (.cells aB 27)).alloc (.cells #[.int .i64 T.k,.string ⟨#[]⟩,.int .i64 0,.string ⟨#[]⟩,.slice none 0 0] 27):=⟨_,rfl⟩;have HB:Hid (Below w.heap.size w W):=ab (by rw[hW];exact((ba _).alloc (by simp) _).alloc (by simp;omega) _)
 have HO:Hid (W.heap[w.heap.size+1+1]? =some (.cells #[.int .i64 T.k,.string ⟨#[]⟩,.int .i64 0,.string ⟨#[]⟩,.slice none 0 0] 27 (0,0))):=ab (by rw[hW];exact aw (by simp))
 have HX:Hid (W.heap[w.heap.size+1]? =some (.cells aB 27 (0,0))):=ab (by rw[hW];exact bL (by simp) (aw (by simp)))
 have HP:Hid (W.heap[w.heap.size]? =some (.cells (ai T) 27 (0,0))):=ab (by rw[hW];exact bL (by simp;omega) (bL (by simp) (aw rfl)))
 have HW:=ab hW;have rY:¬w.heap.size=w.heap.size+1+1:=by omega
 have rX:¬w.heap.size+1+1=w.heap.size:=by omega
 clear hT aA ih hW hc;unfold pv;go_enter func29,ntmps29;go_wp2_with fail;rw[show ((w.alloc (.cells #[.int .i64 T.k,.string T.t,.int .i64 T.n,.string T.nm,.slice T.xa T.len T.cap] 27)).alloc (.cells #[.int .i64 0,.string ⟨#[]⟩,.int .i64 0,.string ⟨#[]⟩,.slice none 0 0] 27)).alloc (.cells #[.int .i64 T.k,.string ⟨#[]⟩,.int .i64 0,.string ⟨#[]⟩,.slice none 0 0] 27)=W from (aa HW).symm];clear HW;refine(zs T.k _).mono ?_;rintro e W1 ⟨rfl,hb⟩;have HP:=ab (am (aa HP) hb);have HX:=ab (am (aa HX) hb);have HO:=ab (am (aa HO) hb);have HB:=ab (ap (aa HB) hb);clear hb;rw[aa HT];generalize W1=W at *;obtain⟨c0,c1,c2,c3,c4⟩:=ej (aa HP);obtain⟨o0,o1,o2,o3,o4⟩:=hJ (aa HO);have of:=fun k=>cT W (w.heap.size+1+1) k _ _ (aa HO)
 go_wp2_with fail;clear c0 c1 c2 c3 c4 o0 o1 o2 o3 o4 of;refine(xL T.k _).mono ?_;rintro e W1 ⟨rfl,hb⟩;have HP:=ab (am (aa HP) hb);have HX:=ab (am (aa HX) hb);have HO:=ab (am (aa HO) hb);have HB:=ab (ap (aa HB) hb);clear hb;rw[aa HN];generalize W1=W at *;obtain⟨c0,c1,c2,c3,c4⟩:=ej (aa HP);obtain⟨o0,o1,o2,o3,o4⟩:=hJ (aa HO);have of:=fun k=>cT W (w.heap.size+1+1) k _ _ (aa HO)
 go_wp2_with fail;clear c0 c1 c2 c3 c4 o0 o1 o2 o3 o4 of;have HP:Hid ((W.setCell ⟨w.heap.size+1+1,2,none⟩ (.int .i64 T.n)).heap[w.heap.size]? =some (.cells (ai T) 27 (0,0))):=ab ((dm W ⟨w.heap.size+1+1,2,none⟩ _ _ (by show w.heap.size≠w.heap.size+1+1;omega)).trans (aa HP))
 have HX:Hid ((W.setCell ⟨w.heap.size+1+1,2,none⟩ (.int .i64 T.n)).heap[w.heap.size+1]? =some (.cells aB 27 (0,0))):=ab ((dm W ⟨w.heap.size+1+1,2,none⟩ _ _ (by show w.heap.size+1≠w.heap.size+1+1;omega)).trans (aa HX))
 have HO:Hid ((W.setCell ⟨w.heap.size+1+1,2,none⟩ (.int .i64 T.n)).heap[w.heap.size+1+1]? =some (.cells #[.int .i64 T.k,.string ⟨#[]⟩,.int .i64 T.n,.string ⟨#[]⟩,.slice none 0 0] 27 (0,0))):=ab (fK W (w.heap.size+1+1) 2 _ _ _ (aa HO));have HB:Hid (Below w.heap.size w (W.setCell ⟨w.heap.size+1+1,2,none⟩ (.int .i64 T.n))):=ab (ly (aa HB) (by omega) _ _)
 have hb9:Below (W.setCell ⟨w.heap.size+1+1,2,none⟩ (.int .i64 T.n)).heap.size (W.setCell ⟨w.heap.size+1+1,2,none⟩ (.int .i64 T.n)) ((W.setCell ⟨w.heap.size+1+1,2,none⟩ (.int .i64 T.n)).alloc (.cells #[.int .i64 21,.int .i64 22,.int .i64 23,.int .i64 24] 3)):=ba _;refine(xT T.k _ _ (aw (by simp))).mono ?_
 rintro e W1 ⟨rfl,rfl⟩;have HP:=ab (am (aa HP) hb9);have HX:=ab (am (aa HX) hb9);have HO:=ab (am (aa HO) hb9);have HB:=ab (ap (aa HB) hb9);clear hb9;rw[aa HM];generalize (W.setCell ⟨w.heap.size+1+1,2,none⟩ (.int .i64 T.n)).alloc (.cells #[.int .i64 21,.int .i64 22,.int .i64 23,.int .i64 24] 3)=W at *;obtain⟨c0,c1,c2,c3,c4⟩:=ej (aa HP);obtain⟨o0,o1,o2,o3,o4⟩:=hJ (aa HO);have of:=fun k=>cT W (w.heap.size+1+1) k _ _ (aa HO)
 go_wp2_with fail;clear c0 c1 c2 c3 c4 o0 o1 o2 o3 o4 of;have aD:Hid (Bre w T ⟨#[]⟩ T.n ⟨#[]⟩ W (.slice none 0 0) 0 []):=ab (⟨aa HP,aa HX,aa HO,aa HB,⟨m8 _ _ _ _,rfl,fun x hx=>absurd hx ek⟩⟩)
 clear HP HX HO HB;go_loopw [36] (fun x wr=>∃(k:Nat) (v:Value) (L:List PT),k≤T.len∧x=.int .i64 (k:Int)∧Hid (Bre w T ⟨#[]⟩ T.n ⟨#[]⟩ wr v k L)) (fun x _=>T.len - (intOf x).toNat)
 case atStart=>exact⟨0,_,[],cU _,rfl,aa aD⟩
 case round=>
  obtain⟨k,v,L,hk,rfl,HK⟩:=hrel;clear aD;have js:=aa eR;rcases cX k T.len with au | jc
  ·have g1:(k:Int) < (T.len:Int):=by omega
   have lm:=kid_at (aa HA) au;have bA:=(aa HA).cells au;unfold PT.kv at bA;have HC:=ab (fun W (hb:Below w.heap.size w W)=>aa IH k au W (PT.In.later hb ((aa HA).kids au)) (aa gY k au))
   have cd:=(fun (i:Nat) (x:Value) (h:w.cell? ⟨T.b,i,none⟩=some x)=>av (aa HK).bel h)
   have a0:=cd _ _ bA.1;have a1:=cd _ _ bA.2.1;have a2:=cd _ _ bA.2.2.1;have a3:=cd _ _ bA.2.2.2.1;have a4:=cd _ _ bA.2.2.2.2;clear cd bA;obtain⟨P,hP⟩:∃P,T.kid k=P:=⟨_,rfl⟩;rw[hP] at HC a0 a1 a2 a3 a4;have kz:=ab hP;clear hP;unfold pv at HC;have hb3:Below wr.heap.size wr (wr.alloc (.cells (ai P) 27)):=ba _;have hq:(wr.alloc (.cells (ai P) 27)).heap[wr.heap.size]? =some (.cells (ai P) 27 (0,0)):=aw rfl;have kA:=ab (am (aa HK).out hb3);have aq:=ab hb3;have dZ:=ab hq;go_wp2_with fail;rw[show (#[.int .i64 P.k,.string P.t,.int .i64 P.n,.string P.nm,.slice P.xa P.len P.cap]:Array Value)=ai P from rfl];generalize (wr.alloc (.cells (ai P) 27))=w3 at *;obtain⟨q0,q1,q2,q3,q4⟩:=ej (aa dZ);obtain⟨o0,o1,o2,o3,o4⟩:=hJ (aa kA);clear hq hb3 a0 a1 a2 a3 a4 o0 o1 o2 o3;have dR:=ab (aa HK).lt;obtain⟨S0,aO⟩:∃S0:World→Prop,S0=fun w'=>w'.cell? ⟨w.heap.size+1+1,4,none⟩=some v∧w'.cell? ⟨wr.heap.size,0,none⟩=some (.int .i64 P.k)∧w'.cell? ⟨wr.heap.size,1,none⟩=some (.string P.t)∧w'.cell? ⟨wr.heap.size,2,none⟩=some (.int .i64 P.n)∧w'.cell? ⟨wr.heap.size,3,none⟩=some (.string P.nm)∧w'.cell? ⟨wr.heap.size,4,none⟩=some (.slice P.xa P.len P.cap):=⟨_,rfl⟩
   have ao:=ab aO;have hS:S0 w3.drew:=by rw[aO];exact⟨o4,q0,q1,q2,q3,q4⟩
   have aU:Hid (∀W,Below w3.heap.size w3 W→S0 W):=ab (fun W h=>by rw[aO];exact⟨av h o4,av h q0,av h q1,av h q2,av h q3,av h q4⟩)
   clear aO;refine gZ 7 S0 ?_;intro F;refine aK F 0 ao hS ?_
   (try go_frame)
   refine aK F 1 ao hS ?_
   (try go_frame)
   refine aK F 2 ao hS ?_
   (try go_frame)
   refine cg 3 (fun K3 cO=> ?_)
   go_simp;have ko:Below w.heap.size w w3.drew:=(ap (aa HK).bel (aa aq)).drew;refine(aa HC _ ko).mono ?_;rintro e w4 ⟨⟨U,rfl,hU,hL⟩,hb4⟩;have hb4':Below w3.heap.size w3 w4:=ap (aW _ _).drew hb4;refine cO _ _ (aa aU _ hb4') ?_;refine cg 4 (fun K4 bH=> ?_)
   (try unfold pv)
   go_simp;have hb5:Below w4.heap.size w4 (w4.alloc (.cells (ai U) 27)):=ba _;refine bH _ _ (aa aU _ (ap hb4' hb5)) ?_;refine cg 5 (fun K5 dP=> ?_)
   have dw:cc (w4.alloc (.cells (ai U) 27)) (w.heap.size+1+1+1) 27 5 eO v L:=((aa HK).kids.row.later (aa aq)).later (ap hb4' hb5);have sf:=(aa HK).len hk;refine ql underlying25 vT rfl (by decide) (by decide) jh nK rfl (.tmp 41) (.tmp 44) rfl dw (by rw[eu];have:=aa dR;have:=hb4'.size;have:=(aa aq).size;omega) U w4.heap.size 1 rfl rfl vS (by have:=aa eR;omega) ?_
   intro v' w6 aV bS dX;have ef:=ab ((aa HK).put au (aa aq) hb4' (by rw[hU,aa kz]) hL aV bS dX)
   have hfz:=cT w6 (w.heap.size+1+1) 4 _ _ (show w6.heap[w.heap.size+1+1]? =_ from oy dw bS (am (am (aa HK).out (aa aq)) (ap hb4' hb5)) (by omega))
   have gq:=(hJ (show w6.heap[w.heap.size+1+1]? =_ from oy dw bS (am (am (aa HK).out (aa aq)) (ap hb4' hb5)) (by omega))).2.2.2.2
   have dQ:Hid (S0 w6):=ab (by
    rw[aa ao];have dV:w6.heap[wr.heap.size]? =_:=(bS.block wr.heap.size (i6 (bC.1 (aa dZ)).1 (ap hb4' hb5).size) (fun e=>by have h1:=((aa HK).kids.row.low e.symm).2;omega)).trans (am (aa dZ) (ap hb4' hb5))
    obtain⟨z0,z1,z2,z3,z4⟩:=ej dV;exact⟨gq,z0,z1,z2,z3,z4⟩)
   obtain⟨g6,cap6,eg, -, -⟩:=aV.form (by simp)
   generalize (L++[U]).length=n6 at eg;subst eg;refine dP _ _ (aa dQ) ?_;refine cg 6 (fun K6 gx=> ?_)
   go_simp;refine gx _ _ (aa dQ) ?_;refine g5 (by kernel_rfl) rfl (by kernel_rfl) (fun K7 gu=> ?_)
   clear aV bS dX dw hb5 hb4 hb4' hL hU hS q0 q1 q2 q3 q4 o4;go_simp;refine gu _ _ ?_
   (try simp only[aH,aP,aG])
   (try go_frame)
   clear gu gx dP bH cO K7 K6 K5 K4 K3 F ao aU gq hfz;go_wp2_with fail;exact⟨⟨k+1,_,L++[U],by omega,rfl,aa ef⟩,by simp[intOf];omega⟩
  ·obtain rfl:k=T.len:=by omega
   have g1:¬(T.len:Int) < (T.len:Int):=by omega
   obtain⟨U,gt,eh,gr⟩:=(aa HK).fin (aa gV) (aa jg) (aa dl) (aa eJ);obtain⟨o0,o1,o2,o3,o4⟩:=hJ (aa HK).out;have HX:=ab (aa HK).box;have HU:=ab (And.intro gt (And.intro eh gr));have ay:=(aa HK).lt;clear gt eh gr;go_wp2_with (first
    | (refine aX rfl 27 _ _ rfl (w.heap.size+1) #[.int .i64 T.k,.string ⟨#[]⟩,.int .i64 T.n,.string ⟨#[]⟩,v] rfl rfl 27 aB (aa HX) dK rfl (by rw[←(aa HU).1];exact ik U) ?_)
    | fail)
   (try simp only[Exit.inBlock,Exit.then])
   refine ck (dT rfl _ _ (w.heap.size+1) 27 #[.int .i64 T.k,.string ⟨#[]⟩,.int .i64 T.n,.string ⟨#[]⟩,v] (0,0) _ rfl (cm _ _ _ _ _ _ (aa HX)) underlying27 rfl dK) rfl ?_;exact⟨⟨U,by have h:=(aa HU).1;unfold ai at h;rw[h],(aa HU).2.1,((aa HU).2.2.setRow (by omega) _).mono (by omega)⟩,eL (aa HK).bel _ (by omega) _⟩
open Go.RowKit
theorem KC {T:PT} (ih:∀i,i < T.len→qo (T.kid i)) (hc:21≤T.k∧T.k≤24):qo T:=by
 intro w hT aA;have HA:=ab hT;have gV:=ab aA;have gY:=ab (fR aA).2;have IH:=ab ih;have eR:Hid (T.len≤4096):=ab (by
  obtain⟨-, -, -, -, -, -,gX⟩:=jy (fR aA).1;unfold cD at gX;split at gX
  ·omega
  ·split at gX <;> omega)
 have jg:Hid (⟨#[]⟩=if aE T.k=1 then T.t else ⟨#[]⟩):=ab (by rw[ac (by intro q;unfold aE at q;split at q <;> (try split at q) <;> (try split at q) <;> omega)])
 have dl:Hid (0=if aE T.k=2 then T.n else 0):=ab (by rw[ac (by intro q;unfold aE at q;split at q <;> (try split at q) <;> (try split at q) <;> omega)])
 have eJ:Hid (T.nm=if aE T.k=3 then T.nm else ⟨#[]⟩):=ab (by rw[af (by unfold aE;rw[ac (by omega),ac (by omega),af (by omega)])])
 have e1:(T.k==1)=false:=bn;have HT:Hid (pB T.k=false):=ab (by unfold pB;exact dh (by simp;omega))
 have HN:Hid (pC T.k=false):=ab (by unfold pC;exact dh (by simp;omega))
 have HM:Hid (qt T.k=true):=ab (by unfold qt;exact eW (by simp;omega))
 obtain⟨W,hW⟩:∃W,W=((w.alloc (.cells (ai T) 27)).alloc (.cells aB 27)).alloc (.cells #[.int .i64 T.k,.string ⟨#[]⟩,.int .i64 0,.string ⟨#[]⟩,.slice none 0 0] 27):=⟨_,rfl⟩;have HB:Hid (Below w.heap.size w W):=ab (by rw[hW];exact((ba _).alloc (by simp) _).alloc (by simp;omega) _)
 have HO:Hid (W.heap[w.heap.size+1+1]? =some (.cells #[.int .i64 T.k,.string ⟨#[]⟩,.int .i64 0,.string ⟨#[]⟩,.slice none 0 0] 27 (0,0))):=ab (by rw[hW];exact aw (by simp))
 have HX:Hid (W.heap[w.heap.size+1]? =some (.cells aB 27 (0,0))):=ab (by rw[hW];exact bL (by simp) (aw (by simp)))
 have HP:Hid (W.heap[w.heap.size]? =some (.cells (ai T) 27 (0,0))):=ab (by rw[hW];exact bL (by simp;omega) (bL (by simp) (aw rfl)))
 have HW:=ab hW;have rY:¬w.heap.size=w.heap.size+1+1:=by omega
 have rX:¬w.heap.size+1+1=w.heap.size:=by omega
 clear hT aA ih hW hc;unfold pv;go_enter func29,ntmps29;go_wp2_with fail;rw[show ((w.alloc (.cells #[.int .i64 T.k,.string T.t,.int .i64 T.n,.string T.nm,.slice T.xa T.len T.cap] 27)).alloc (.cells #[.int .i64 0,.string ⟨#[]⟩,.int .i64 0,.string ⟨#[]⟩,.slice none 0 0] 27)).alloc (.cells #[.int .i64 T.k,.string ⟨#[]⟩,.int .i64 0,.string ⟨#[]⟩,.slice none 0 0] 27)=W from (aa HW).symm];clear HW;refine(zs T.k _).mono ?_;rintro e W1 ⟨rfl,hb⟩;have HP:=ab (am (aa HP) hb);have HX:=ab (am (aa HX) hb);have HO:=ab (am (aa HO) hb);have HB:=ab (ap (aa HB) hb);clear hb;rw[aa HT];generalize W1=W at *;obtain⟨c0,c1,c2,c3,c4⟩:=ej (aa HP);obtain⟨o0,o1,o2,o3,o4⟩:=hJ (aa HO);have of:=fun k=>cT W (w.heap.size+1+1) k _ _ (aa HO)
 go_wp2_with fail;clear c0 c1 c2 c3 c4 o0 o1 o2 o3 o4 of;refine(xL T.k _).mono ?_;rintro e W1 ⟨rfl,hb⟩;have HP:=ab (am (aa HP) hb);have HX:=ab (am (aa HX) hb);have HO:=ab (am (aa HO) hb);have HB:=ab (ap (aa HB) hb);clear hb;rw[aa HN];generalize W1=W at *;obtain⟨c0,c1,c2,c3,c4⟩:=ej (aa HP);obtain⟨o0,o1,o2,o3,o4⟩:=hJ (aa HO);have of:=fun k=>cT W (w.heap.size+1+1) k _ _ (aa HO)
 go_wp2_with fail;clear c0 c1 c2 c3 c4 o0 o1 o2 o3 o4 of;have hb9:Below W.heap.size W (W.alloc (.cells #[.int .i64 21,.int .i64 22,.int .i64 23,.int .i64 24] 3)):=ba _;refine(xT T.k _ _ (aw (by simp))).mono ?_
 rintro e W1 ⟨rfl,rfl⟩;have HP:=ab (am (aa HP) hb9);have HX:=ab (am (aa HX) hb9);have HO:=ab (am (aa HO) hb9);have HB:=ab (ap (aa HB) hb9);clear hb9;rw[aa HM];generalize W.alloc (.cells #[.int .i64 21,.int .i64 22,.int .i64 23,.int .i64 24] 3)=W at *;obtain⟨c0,c1,c2,c3,c4⟩:=ej (aa HP);obtain⟨o0,o1,o2,o3,o4⟩:=hJ (aa HO);have of:=fun k=>cT W (w.heap.size+1+1) k _ _ (aa HO)
 go_wp2_with fail;clear c0 c1 c2 c3 c4 o0 o1 o2 o3 o4 of;have HP:Hid ((W.setCell ⟨w.heap.size+1+1,3,none⟩ (.string T.nm)).heap[w.heap.size]? =some (.cells (ai T) 27 (0,0))):=ab ((dm W ⟨w.heap.size+1+1,3,none⟩ _ _ (by show w.heap.size≠w.heap.size+1+1;omega)).trans (aa HP))
 have HX:Hid ((W.setCell ⟨w.heap.size+1+1,3,none⟩ (.string T.nm)).heap[w.heap.size+1]? =some (.cells aB 27 (0,0))):=ab ((dm W ⟨w.heap.size+1+1,3,none⟩ _ _ (by show w.heap.size+1≠w.heap.size+1+1;omega)).trans (aa HX))
 have HO:Hid ((W.setCell ⟨w.heap.size+1+1,3,none⟩ (.string T.nm)).heap[w.heap.size+1+1]? =some (.cells #[.int .i64 T.k,.string ⟨#[]⟩,.int .i64 0,.string T.nm,.slice none 0 0] 27 (0,0))):=ab (fK W (w.heap.size+1+1) 3 _ _ _ (aa HO));have HB:Hid (Below w.heap.size w (W.setCell ⟨w.heap.size+1+1,3,none⟩ (.string T.nm))):=ab (ly (aa HB) (by omega) _ _)
 generalize W.setCell ⟨w.heap.size+1+1,3,none⟩ (.string T.nm)=W at *;have aD:Hid (Bre w T ⟨#[]⟩ 0 T.nm W (.slice none 0 0) 0 []):=ab (⟨aa HP,aa HX,aa HO,aa HB,⟨m8 _ _ _ _,rfl,fun x hx=>absurd hx ek⟩⟩)
 clear HP HX HO HB;go_loopw [36] (fun x wr=>∃(k:Nat) (v:Value) (L:List PT),k≤T.len∧x=.int .i64 (k:Int)∧Hid (Bre w T ⟨#[]⟩ 0 T.nm wr v k L)) (fun x _=>T.len - (intOf x).toNat)
 case atStart=>exact⟨0,_,[],cU _,rfl,aa aD⟩
 case round=>
  obtain⟨k,v,L,hk,rfl,HK⟩:=hrel;clear aD;have js:=aa eR;rcases cX k T.len with au | jc
  ·have g1:(k:Int) < (T.len:Int):=by omega
   have lm:=kid_at (aa HA) au;have bA:=(aa HA).cells au;unfold PT.kv at bA;have HC:=ab (fun W (hb:Below w.heap.size w W)=>aa IH k au W (PT.In.later hb ((aa HA).kids au)) (aa gY k au))
   have cd:=(fun (i:Nat) (x:Value) (h:w.cell? ⟨T.b,i,none⟩=some x)=>av (aa HK).bel h)
   have a0:=cd _ _ bA.1;have a1:=cd _ _ bA.2.1;have a2:=cd _ _ bA.2.2.1;have a3:=cd _ _ bA.2.2.2.1;have a4:=cd _ _ bA.2.2.2.2;clear cd bA;obtain⟨P,hP⟩:∃P,T.kid k=P:=⟨_,rfl⟩;rw[hP] at HC a0 a1 a2 a3 a4;have kz:=ab hP;clear hP;unfold pv at HC;have hb3:Below wr.heap.size wr (wr.alloc (.cells (ai P) 27)):=ba _;have hq:(wr.alloc (.cells (ai P) 27)).heap[wr.heap.size]? =some (.cells (ai P) 27 (0,0)):=aw rfl;have kA:=ab (am (aa HK).out hb3);have aq:=ab hb3;have dZ:=ab hq;go_wp2_with fail;rw[show (#[.int .i64 P.k,.string P.t,.int .i64 P.n,.string P.nm,.slice P.xa P.len P.cap]:Array Value)=ai P from rfl];generalize (wr.alloc (.cells (ai P) 27))=w3 at *;obtain⟨q0,q1,q2,q3,q4⟩:=ej (aa dZ);obtain⟨o0,o1,o2,o3,o4⟩:=hJ (aa kA);clear hq hb3 a0 a1 a2 a3 a4 o0 o1 o2 o3;have dR:=ab (aa HK).lt;obtain⟨S0,aO⟩:∃S0:World→Prop,S0=fun w'=>w'.cell? ⟨w.heap.size+1+1,4,none⟩=some v∧w'.cell? ⟨wr.heap.size,0,none⟩=some (.int .i64 P.k)∧w'.cell? ⟨wr.heap.size,1,none⟩=some (.string P.t)∧w'.cell? ⟨wr.heap.size,2,none⟩=some (.int .i64 P.n)∧w'.cell? ⟨wr.heap.size,3,none⟩=some (.string P.nm)∧w'.cell? ⟨wr.heap.size,4,none⟩=some (.slice P.xa P.len P.cap):=⟨_,rfl⟩
   have ao:=ab aO;have hS:S0 w3.drew:=by rw[aO];exact⟨o4,q0,q1,q2,q3,q4⟩
   have aU:Hid (∀W,Below w3.heap.size w3 W→S0 W):=ab (fun W h=>by rw[aO];exact⟨av h o4,av h q0,av h q1,av h q2,av h q3,av h q4⟩)
   clear aO;refine gZ 7 S0 ?_;intro F;refine aK F 0 ao hS ?_
   (try go_frame)
   refine aK F 1 ao hS ?_
   (try go_frame)
   refine aK F 2 ao hS ?_
   (try go_frame)
   refine cg 3 (fun K3 cO=> ?_)
   go_simp;have ko:Below w.heap.size w w3.drew:=(ap (aa HK).bel (aa aq)).drew;refine(aa HC _ ko).mono ?_;rintro e w4 ⟨⟨U,rfl,hU,hL⟩,hb4⟩;have hb4':Below w3.heap.size w3 w4:=ap (aW _ _).drew hb4;refine cO _ _ (aa aU _ hb4') ?_;refine cg 4 (fun K4 bH=> ?_)
   (try unfold pv)
   go_simp;have hb5:Below w4.heap.size w4 (w4.alloc (.cells (ai U) 27)):=ba _;refine bH _ _ (aa aU _ (ap hb4' hb5)) ?_;refine cg 5 (fun K5 dP=> ?_)
   have dw:cc (w4.alloc (.cells (ai U) 27)) (w.heap.size+1+1+1) 27 5 eO v L:=((aa HK).kids.row.later (aa aq)).later (ap hb4' hb5);have sf:=(aa HK).len hk;refine ql underlying25 vT rfl (by decide) (by decide) jh nK rfl (.tmp 41) (.tmp 44) rfl dw (by rw[eu];have:=aa dR;have:=hb4'.size;have:=(aa aq).size;omega) U w4.heap.size 1 rfl rfl vS (by have:=aa eR;omega) ?_
   intro v' w6 aV bS dX;have ef:=ab ((aa HK).put au (aa aq) hb4' (by rw[hU,aa kz]) hL aV bS dX)
   have hfz:=cT w6 (w.heap.size+1+1) 4 _ _ (show w6.heap[w.heap.size+1+1]? =_ from oy dw bS (am (am (aa HK).out (aa aq)) (ap hb4' hb5)) (by omega))
   have gq:=(hJ (show w6.heap[w.heap.size+1+1]? =_ from oy dw bS (am (am (aa HK).out (aa aq)) (ap hb4' hb5)) (by omega))).2.2.2.2
   have dQ:Hid (S0 w6):=ab (by
    rw[aa ao];have dV:w6.heap[wr.heap.size]? =_:=(bS.block wr.heap.size (i6 (bC.1 (aa dZ)).1 (ap hb4' hb5).size) (fun e=>by have h1:=((aa HK).kids.row.low e.symm).2;omega)).trans (am (aa dZ) (ap hb4' hb5))
    obtain⟨z0,z1,z2,z3,z4⟩:=ej dV;exact⟨gq,z0,z1,z2,z3,z4⟩)
   obtain⟨g6,cap6,eg, -, -⟩:=aV.form (by simp)
   generalize (L++[U]).length=n6 at eg;subst eg;refine dP _ _ (aa dQ) ?_;refine cg 6 (fun K6 gx=> ?_)
   go_simp;refine gx _ _ (aa dQ) ?_;refine g5 (by kernel_rfl) rfl (by kernel_rfl) (fun K7 gu=> ?_)
   clear aV bS dX dw hb5 hb4 hb4' hL hU hS q0 q1 q2 q3 q4 o4;go_simp;refine gu _ _ ?_
   (try simp only[aH,aP,aG])
   (try go_frame)
   clear gu gx dP bH cO K7 K6 K5 K4 K3 F ao aU gq hfz;go_wp2_with fail;exact⟨⟨k+1,_,L++[U],by omega,rfl,aa ef⟩,by simp[intOf];omega⟩
  ·obtain rfl:k=T.len:=by omega
   have g1:¬(T.len:Int) < (T.len:Int):=by omega
   obtain⟨U,gt,eh,gr⟩:=(aa HK).fin (aa gV) (aa jg) (aa dl) (aa eJ);obtain⟨o0,o1,o2,o3,o4⟩:=hJ (aa HK).out;have HX:=ab (aa HK).box;have HU:=ab (And.intro gt (And.intro eh gr));have ay:=(aa HK).lt;clear gt eh gr;go_wp2_with (first
    | (refine aX rfl 27 _ _ rfl (w.heap.size+1) #[.int .i64 T.k,.string ⟨#[]⟩,.int .i64 0,.string T.nm,v] rfl rfl 27 aB (aa HX) dK rfl (by rw[←(aa HU).1];exact ik U) ?_)
    | fail)
   (try simp only[Exit.inBlock,Exit.then])
   refine ck (dT rfl _ _ (w.heap.size+1) 27 #[.int .i64 T.k,.string ⟨#[]⟩,.int .i64 0,.string T.nm,v] (0,0) _ rfl (cm _ _ _ _ _ _ (aa HX)) underlying27 rfl dK) rfl ?_;exact⟨⟨U,by have h:=(aa HU).1;unfold ai at h;rw[h],(aa HU).2.1,((aa HU).2.2.setRow (by omega) _).mono (by omega)⟩,eL (aa HK).bel _ (by omega) _⟩
open Go.RowKit
theorem Ir:∀T:PT,qo T:=PT.ind fun T ih=>by
 intro w hT aA;obtain⟨k1,k24, -⟩:=jy (fR aA).1;rcases (show T.k=1∨(3≤T.k∧T.k≤7)∨(T.k=2∨(8≤T.k∧T.k≤11))∨(12≤T.k∧T.k≤20)∨(21≤T.k∧T.k≤24) by omega) with h | h | h | h | h
 ·exact Mi ih h w hT aA
 ·exact KA ih h w hT aA
 ·exact Mh ih h w hT aA
 ·exact KB ih h w hT aA
 ·exact KC ih h w hT aA
end Go.Proofs.YtlmnjbipfacniaaGreatDoor
