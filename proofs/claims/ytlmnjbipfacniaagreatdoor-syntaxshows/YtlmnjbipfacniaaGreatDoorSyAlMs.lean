/- The document's BareExpr of a right expression. How a line's -/
import Derived.Test.YtlmnjbipfacniaaGreatDoorBxBMs
import Derived.Test.YtlmnjbipfacniaaGreatDoorRtSameMs
import Derived.Test.YtlmnjbipfacniaaGreatDoorCellKMs
import Derived.Test.YtlmnjbipfacniaaGreatDoorJoinLibMs
import Derived.Test.YtlmnjbipfacniaaGreatDoorWrDMs
import Derived.Test.YtlmnjbipfacniaaGreatDoorSyNMs
set_option maxRecDepth 100000
set_option maxHeartbeats 4000000
namespace Go.Proofs.YtlmnjbipfacniaaGreatDoor
open Go.Proofs.Tryz
open Go.RowKit
theorem LK {T:PT} (ih:∀i,i < T.len→oM (T.kid i)) (hc:T.k=1):oM T:=by
 intro w hT aA;have HA:=ab hT;have gO:=ab aA;have gR:=ab (iK aA).2;have IH:=ab ih;have ej:Hid (T.len≤4096):=ab (by have:=wU T.k;have:=(oK (iK aA).1).2.2.2.2.2;omega)
 have kq:Hid (T.t=if T.k=1 then T.t else ByteArray.empty):=ab (by rw[af hc])
 have dd:Hid (0=if T.k=2 then T.n else 0):=ab (by rw[ac (by omega)])
 have eF:Hid (⟨#[]⟩=if ck T.k=true then T.nm else ByteArray.empty):=ab (by rw[ac (by unfold ck;simp;omega)];rfl)
 have e1:(T.k==1)=true:=bt;obtain⟨W,hW⟩:∃W,W=((w.alloc (.cells (ai T) 24)).alloc (.cells aB 24)).alloc (.cells #[.int .i64 T.k,.string T.t,.int .i64 0,.string ⟨#[]⟩,.slice none 0 0] 24):=⟨_,rfl⟩;have HB:Hid (Below w.heap.size w W):=ab (by rw[hW];exact((ba _).alloc (by simp) _).alloc (by simp;omega) _)
 have HO:Hid (W.heap[w.heap.size+1+1]? =some (.cells #[.int .i64 T.k,.string T.t,.int .i64 0,.string ⟨#[]⟩,.slice none 0 0] 24 (0,0))):=ab (by rw[hW];exact ax (by simp))
 have HX:Hid (W.heap[w.heap.size+1]? =some (.cells aB 24 (0,0))):=ab (by rw[hW];exact ci (by simp) (ax (by simp)))
 have HP:Hid (W.heap[w.heap.size]? =some (.cells (ai T) 24 (0,0))):=ab (by rw[hW];exact ci (by simp;omega) (ci (by simp) (ax rfl)))
 have HW:=ab hW;have sn:¬w.heap.size=w.heap.size+1+1:=by omega
 have sj:¬w.heap.size+1+1=w.heap.size:=by omega
 clear hT aA ih hW hc;unfold pv;go_enter func28,ntmps28;go_wp2_with fail;rw[show ((w.alloc (.cells #[.int .i64 T.k,.string T.t,.int .i64 T.n,.string T.nm,.slice T.xa T.len T.cap] 24)).alloc (.cells #[.int .i64 0,.string ⟨#[]⟩,.int .i64 0,.string ⟨#[]⟩,.slice none 0 0] 24)).alloc (.cells #[.int .i64 T.k,.string T.t,.int .i64 0,.string ⟨#[]⟩,.slice none 0 0] 24)=W from (aa HW).symm];clear HW;have aF:Hid (XBre w T T.t 0 ⟨#[]⟩ W (.slice none 0 0) 0 []):=ab (⟨aa HP,aa HX,aa HO,aa HB,KidsX.nil⟩);clear HP HX HO HB;go_loopw [31] (fun x wr=>∃(k:Nat) (v:Value) (L:List PT),k≤T.len∧x=.int .i64 (k:Int)∧Hid (XBre w T T.t 0 ⟨#[]⟩ wr v k L)) (fun x _=>T.len - (intOf x).toNat)
 case atStart=>exact⟨0,_,[],cU _,rfl,aa aF⟩
 case round=>
  obtain⟨k,v,L,hk,rfl,HK⟩:=hrel;clear aF;have fO:=aa ej;rcases cG k T.len with au | gD
  ·have g1:(k:Int) < (T.len:Int):=by omega
   have lo:=ms (aa HA) au;have bq:=(aa HA).cells au;unfold PT.kv at bq;have HC:=ab (fun W (hb:Below w.heap.size w W)=>aa IH k au W (PT.In.later hb ((aa HA).kids au)) (aa gR k au))
   have cd:=(fun (i:Nat) (x:Value) (h:w.cell? ⟨T.b,i,none⟩=some x)=>av (aa HK).bel h)
   have a0:=cd _ _ bq.1;have a1:=cd _ _ bq.2.1;have a2:=cd _ _ bq.2.2.1;have a3:=cd _ _ bq.2.2.2.1;have a4:=cd _ _ bq.2.2.2.2;clear cd bq;obtain⟨P,hP⟩:∃P,T.kid k=P:=⟨_,rfl⟩;rw[hP] at HC a0 a1 a2 a3 a4;have kh:=ab hP;clear hP;unfold pv at HC;have hb3:Below wr.heap.size wr (wr.alloc (.cells (ai P) 24)):=ba _;have hq:(wr.alloc (.cells (ai P) 24)).heap[wr.heap.size]? =some (.cells (ai P) 24 (0,0)):=ax rfl;have kj:=ab (an (aa HK).out hb3);have ao:=ab hb3;have dG:=ab hq;go_wp2_with fail;rw[show (#[.int .i64 P.k,.string P.t,.int .i64 P.n,.string P.nm,.slice P.xa P.len P.cap]:Array Value)=ai P from rfl];generalize (wr.alloc (.cells (ai P) 24))=w3 at *;obtain⟨q0,q1,q2,q3,q4⟩:=du (aa dG);obtain⟨o0,o1,o2,o3,o4⟩:=du (aa kj);clear hq hb3 a0 a1 a2 a3 a4 o0 o1 o2 o3;have dW:=ab (aa HK).lt;obtain⟨S0,aN⟩:∃S0:World→Prop,S0=fun w'=>w'.cell? ⟨w.heap.size+1+1,4,none⟩=some v∧w'.cell? ⟨wr.heap.size,0,none⟩=some (.int .i64 P.k)∧w'.cell? ⟨wr.heap.size,1,none⟩=some (.string P.t)∧w'.cell? ⟨wr.heap.size,2,none⟩=some (.int .i64 P.n)∧w'.cell? ⟨wr.heap.size,3,none⟩=some (.string P.nm)∧w'.cell? ⟨wr.heap.size,4,none⟩=some (.slice P.xa P.len P.cap):=⟨_,rfl⟩
   have ap:=ab aN;have hS:S0 w3.drew:=by rw[aN];exact⟨o4,q0,q1,q2,q3,q4⟩
   have aW:Hid (∀W,Below w3.heap.size w3 W→S0 W):=ab (fun W h=>by rw[aN];exact⟨av h o4,av h q0,av h q1,av h q2,av h q3,av h q4⟩)
   clear aN;refine gt 7 S0 ?_;intro F;refine aK F 0 ap hS ?_
   (try go_frame)
   refine aK F 1 ap hS ?_
   (try go_frame)
   refine aK F 2 ap hS ?_
   (try go_frame)
   refine ce 3 (fun K3 cC=> ?_)
   go_simp;have j4:Below w.heap.size w w3.drew:=(aq (aa HK).bel (aa ao)).drew;refine(aa HC _ j4).mono ?_;rintro e w4 ⟨⟨U,rfl,hU,hL⟩,hb4⟩;have hb4':Below w3.heap.size w3 w4:=aq (aV _ _).drew hb4;refine cC _ _ (aa aW _ hb4') ?_;refine ce 4 (fun K4 bw=> ?_)
   (try unfold pv)
   go_simp;have hb5:Below w4.heap.size w4 (w4.alloc (.cells (ai U) 24)):=ba _;refine bw _ _ (aa aW _ (aq hb4' hb5)) ?_;refine ce 5 (fun K5 dy=> ?_)
   have dn:bP (w4.alloc (.cells (ai U) 24)) (w.heap.size+1+1+1) 24 5 eH v L:=((aa HK).kids.row.later (aa ao)).later (aq hb4' hb5);have su:=(aa HK).len hk;refine qH underlying22 we rfl (by decide) (by decide) iX nU rfl (.tmp 36) (.tmp 39) rfl dn (by rw[dS];have:=aa dW;have:=hb4'.size;have:=(aa ao).size;omega) U w4.heap.size 1 rfl rfl vQ (by have:=aa ej;omega) ?_
   intro v' w6 aS bI dP;have dY:=ab ((aa HK).put au (aa ao) hb4' (by rw[hU,aa kh]) hL aS bI dP)
   have hfz:=cN w6 (w.heap.size+1+1) 4 _ _ (show w6.heap[w.heap.size+1+1]? =_ from oI dn bI (an (an (aa HK).out (aa ao)) (aq hb4' hb5)) (by omega))
   have ge:=(du (show w6.heap[w.heap.size+1+1]? =_ from oI dn bI (an (an (aa HK).out (aa ao)) (aq hb4' hb5)) (by omega))).2.2.2.2
   have ec:Hid (S0 w6):=ab (by
    rw[aa ap];have dN:w6.heap[wr.heap.size]? =_:=(bI.block wr.heap.size (gL (bC.1 (aa dG)).1 (aq hb4' hb5).size) (fun e=>by have h1:=((aa HK).kids.row.low e.symm).2;omega)).trans (an (aa dG) (aq hb4' hb5))
    obtain⟨z0,z1,z2,z3,z4⟩:=du dN;exact⟨ge,z0,z1,z2,z3,z4⟩)
   obtain⟨g6,cap6,dZ, -, -⟩:=aS.form (by simp)
   generalize (L++[U]).length=n6 at dZ;subst dZ;refine dy _ _ (aa ec) ?_;refine ce 6 (fun K6 gj=> ?_)
   go_simp;refine gj _ _ (aa ec) ?_;refine gy (by kernel_rfl) rfl (by kernel_rfl) (fun K7 gi=> ?_)
   clear aS bI dP dn hb5 hb4 hb4' hL hU hS q0 q1 q2 q3 q4 o4;go_simp;refine gi _ _ ?_
   (try simp only[aH,aJ,aG])
   (try go_frame)
   clear gi gj dy bw cC K7 K6 K5 K4 K3 F ap aW ge hfz;go_wp2_with fail;exact⟨⟨k+1,_,L++[U],by omega,rfl,aa dY⟩,by simp[intOf];omega⟩
  ·obtain rfl:k=T.len:=by omega
   have g1:¬(T.len:Int) < (T.len:Int):=by omega
   obtain⟨U,gh,d5,gg⟩:=(aa HK).fin (aa HA) (aa gO) (aa kq) (aa dd) (aa eF);obtain⟨o0,o1,o2,o3,o4⟩:=du (aa HK).out;have HX:=ab (aa HK).box;have HU:=ab (And.intro gh (And.intro d5 gg));have ay:=(aa HK).lt;clear gh d5 gg;go_wp2_with (first
    | (refine bh rfl 24 _ _ rfl (w.heap.size+1) #[.int .i64 T.k,.string T.t,.int .i64 0,.string ⟨#[]⟩,v] rfl rfl 24 aB (aa HX) eM rfl (by rw[←(aa HU).1];exact gZ U) ?_)
    | fail)
   (try simp only[Exit.inBlock,Exit.then])
   refine bK (dM rfl _ _ (w.heap.size+1) 24 #[.int .i64 T.k,.string T.t,.int .i64 0,.string ⟨#[]⟩,v] (0,0) _ rfl (bW _ _ _ _ _ _ (aa HX)) underlying24 rfl eM) rfl ?_;exact⟨⟨U,by have h:=(aa HU).1;unfold ai at h;rw[h],(aa HU).2.1,((aa HU).2.2.setRow (by omega) _).mono (by omega)⟩,ed (aa HK).bel _ (by omega) _⟩
theorem M7 {T:PT} (ih:∀i,i < T.len→oM (T.kid i)) (hc:T.k=2):oM T:=by
 intro w hT aA;have HA:=ab hT;have gO:=ab aA;have gR:=ab (iK aA).2;have IH:=ab ih;have ej:Hid (T.len≤4096):=ab (by have:=wU T.k;have:=(oK (iK aA).1).2.2.2.2.2;omega)
 have kq:Hid (⟨#[]⟩=if T.k=1 then T.t else ByteArray.empty):=ab (by rw[ac (by omega)];rfl)
 have dd:Hid (T.n=if T.k=2 then T.n else 0):=ab (by rw[af hc])
 have eF:Hid (⟨#[]⟩=if ck T.k=true then T.nm else ByteArray.empty):=ab (by rw[ac (by unfold ck;simp;omega)];rfl)
 have e1:(T.k==1)=false:=bn;have e2:(T.k==2)=true:=bt;obtain⟨W,hW⟩:∃W,W=((w.alloc (.cells (ai T) 24)).alloc (.cells aB 24)).alloc (.cells #[.int .i64 T.k,.string ⟨#[]⟩,.int .i64 T.n,.string ⟨#[]⟩,.slice none 0 0] 24):=⟨_,rfl⟩;have HB:Hid (Below w.heap.size w W):=ab (by rw[hW];exact((ba _).alloc (by simp) _).alloc (by simp;omega) _)
 have HO:Hid (W.heap[w.heap.size+1+1]? =some (.cells #[.int .i64 T.k,.string ⟨#[]⟩,.int .i64 T.n,.string ⟨#[]⟩,.slice none 0 0] 24 (0,0))):=ab (by rw[hW];exact ax (by simp))
 have HX:Hid (W.heap[w.heap.size+1]? =some (.cells aB 24 (0,0))):=ab (by rw[hW];exact ci (by simp) (ax (by simp)))
 have HP:Hid (W.heap[w.heap.size]? =some (.cells (ai T) 24 (0,0))):=ab (by rw[hW];exact ci (by simp;omega) (ci (by simp) (ax rfl)))
 have HW:=ab hW;have sn:¬w.heap.size=w.heap.size+1+1:=by omega
 have sj:¬w.heap.size+1+1=w.heap.size:=by omega
 clear hT aA ih hW hc;unfold pv;go_enter func28,ntmps28;go_wp2_with fail;rw[show ((w.alloc (.cells #[.int .i64 T.k,.string T.t,.int .i64 T.n,.string T.nm,.slice T.xa T.len T.cap] 24)).alloc (.cells #[.int .i64 0,.string ⟨#[]⟩,.int .i64 0,.string ⟨#[]⟩,.slice none 0 0] 24)).alloc (.cells #[.int .i64 T.k,.string ⟨#[]⟩,.int .i64 T.n,.string ⟨#[]⟩,.slice none 0 0] 24)=W from (aa HW).symm];clear HW;have aF:Hid (XBre w T ⟨#[]⟩ T.n ⟨#[]⟩ W (.slice none 0 0) 0 []):=ab (⟨aa HP,aa HX,aa HO,aa HB,KidsX.nil⟩);clear HP HX HO HB;go_loopw [31] (fun x wr=>∃(k:Nat) (v:Value) (L:List PT),k≤T.len∧x=.int .i64 (k:Int)∧Hid (XBre w T ⟨#[]⟩ T.n ⟨#[]⟩ wr v k L)) (fun x _=>T.len - (intOf x).toNat)
 case atStart=>exact⟨0,_,[],cU _,rfl,aa aF⟩
 case round=>
  obtain⟨k,v,L,hk,rfl,HK⟩:=hrel;clear aF;have fO:=aa ej;rcases cG k T.len with au | gD
  ·have g1:(k:Int) < (T.len:Int):=by omega
   have lo:=ms (aa HA) au;have bq:=(aa HA).cells au;unfold PT.kv at bq;have HC:=ab (fun W (hb:Below w.heap.size w W)=>aa IH k au W (PT.In.later hb ((aa HA).kids au)) (aa gR k au))
   have cd:=(fun (i:Nat) (x:Value) (h:w.cell? ⟨T.b,i,none⟩=some x)=>av (aa HK).bel h)
   have a0:=cd _ _ bq.1;have a1:=cd _ _ bq.2.1;have a2:=cd _ _ bq.2.2.1;have a3:=cd _ _ bq.2.2.2.1;have a4:=cd _ _ bq.2.2.2.2;clear cd bq;obtain⟨P,hP⟩:∃P,T.kid k=P:=⟨_,rfl⟩;rw[hP] at HC a0 a1 a2 a3 a4;have kh:=ab hP;clear hP;unfold pv at HC;have hb3:Below wr.heap.size wr (wr.alloc (.cells (ai P) 24)):=ba _;have hq:(wr.alloc (.cells (ai P) 24)).heap[wr.heap.size]? =some (.cells (ai P) 24 (0,0)):=ax rfl;have kj:=ab (an (aa HK).out hb3);have ao:=ab hb3;have dG:=ab hq;go_wp2_with fail;rw[show (#[.int .i64 P.k,.string P.t,.int .i64 P.n,.string P.nm,.slice P.xa P.len P.cap]:Array Value)=ai P from rfl];generalize (wr.alloc (.cells (ai P) 24))=w3 at *;obtain⟨q0,q1,q2,q3,q4⟩:=du (aa dG);obtain⟨o0,o1,o2,o3,o4⟩:=du (aa kj);clear hq hb3 a0 a1 a2 a3 a4 o0 o1 o2 o3;have dW:=ab (aa HK).lt;obtain⟨S0,aN⟩:∃S0:World→Prop,S0=fun w'=>w'.cell? ⟨w.heap.size+1+1,4,none⟩=some v∧w'.cell? ⟨wr.heap.size,0,none⟩=some (.int .i64 P.k)∧w'.cell? ⟨wr.heap.size,1,none⟩=some (.string P.t)∧w'.cell? ⟨wr.heap.size,2,none⟩=some (.int .i64 P.n)∧w'.cell? ⟨wr.heap.size,3,none⟩=some (.string P.nm)∧w'.cell? ⟨wr.heap.size,4,none⟩=some (.slice P.xa P.len P.cap):=⟨_,rfl⟩
   have ap:=ab aN;have hS:S0 w3.drew:=by rw[aN];exact⟨o4,q0,q1,q2,q3,q4⟩
   have aW:Hid (∀W,Below w3.heap.size w3 W→S0 W):=ab (fun W h=>by rw[aN];exact⟨av h o4,av h q0,av h q1,av h q2,av h q3,av h q4⟩)
   clear aN;refine gt 7 S0 ?_;intro F;refine aK F 0 ap hS ?_
   (try go_frame)
   refine aK F 1 ap hS ?_
   (try go_frame)
   refine aK F 2 ap hS ?_
   (try go_frame)
   refine ce 3 (fun K3 cC=> ?_)
   go_simp;have j4:Below w.heap.size w w3.drew:=(aq (aa HK).bel (aa ao)).drew;refine(aa HC _ j4).mono ?_;rintro e w4 ⟨⟨U,rfl,hU,hL⟩,hb4⟩;have hb4':Below w3.heap.size w3 w4:=aq (aV _ _).drew hb4;refine cC _ _ (aa aW _ hb4') ?_;refine ce 4 (fun K4 bw=> ?_)
   (try unfold pv)
   go_simp;have hb5:Below w4.heap.size w4 (w4.alloc (.cells (ai U) 24)):=ba _;refine bw _ _ (aa aW _ (aq hb4' hb5)) ?_;refine ce 5 (fun K5 dy=> ?_)
   have dn:bP (w4.alloc (.cells (ai U) 24)) (w.heap.size+1+1+1) 24 5 eH v L:=((aa HK).kids.row.later (aa ao)).later (aq hb4' hb5);have su:=(aa HK).len hk;refine qH underlying22 we rfl (by decide) (by decide) iX nU rfl (.tmp 36) (.tmp 39) rfl dn (by rw[dS];have:=aa dW;have:=hb4'.size;have:=(aa ao).size;omega) U w4.heap.size 1 rfl rfl vQ (by have:=aa ej;omega) ?_
   intro v' w6 aS bI dP;have dY:=ab ((aa HK).put au (aa ao) hb4' (by rw[hU,aa kh]) hL aS bI dP)
   have hfz:=cN w6 (w.heap.size+1+1) 4 _ _ (show w6.heap[w.heap.size+1+1]? =_ from oI dn bI (an (an (aa HK).out (aa ao)) (aq hb4' hb5)) (by omega))
   have ge:=(du (show w6.heap[w.heap.size+1+1]? =_ from oI dn bI (an (an (aa HK).out (aa ao)) (aq hb4' hb5)) (by omega))).2.2.2.2
   have ec:Hid (S0 w6):=ab (by
    rw[aa ap];have dN:w6.heap[wr.heap.size]? =_:=(bI.block wr.heap.size (gL (bC.1 (aa dG)).1 (aq hb4' hb5).size) (fun e=>by have h1:=((aa HK).kids.row.low e.symm).2;omega)).trans (an (aa dG) (aq hb4' hb5))
    obtain⟨z0,z1,z2,z3,z4⟩:=du dN;exact⟨ge,z0,z1,z2,z3,z4⟩)
   obtain⟨g6,cap6,dZ, -, -⟩:=aS.form (by simp)
   generalize (L++[U]).length=n6 at dZ;subst dZ;refine dy _ _ (aa ec) ?_;refine ce 6 (fun K6 gj=> ?_)
   go_simp;refine gj _ _ (aa ec) ?_;refine gy (by kernel_rfl) rfl (by kernel_rfl) (fun K7 gi=> ?_)
   clear aS bI dP dn hb5 hb4 hb4' hL hU hS q0 q1 q2 q3 q4 o4;go_simp;refine gi _ _ ?_
   (try simp only[aH,aJ,aG])
   (try go_frame)
   clear gi gj dy bw cC K7 K6 K5 K4 K3 F ap aW ge hfz;go_wp2_with fail;exact⟨⟨k+1,_,L++[U],by omega,rfl,aa dY⟩,by simp[intOf];omega⟩
  ·obtain rfl:k=T.len:=by omega
   have g1:¬(T.len:Int) < (T.len:Int):=by omega
   obtain⟨U,gh,d5,gg⟩:=(aa HK).fin (aa HA) (aa gO) (aa kq) (aa dd) (aa eF);obtain⟨o0,o1,o2,o3,o4⟩:=du (aa HK).out;have HX:=ab (aa HK).box;have HU:=ab (And.intro gh (And.intro d5 gg));have ay:=(aa HK).lt;clear gh d5 gg;go_wp2_with (first
    | (refine bh rfl 24 _ _ rfl (w.heap.size+1) #[.int .i64 T.k,.string ⟨#[]⟩,.int .i64 T.n,.string ⟨#[]⟩,v] rfl rfl 24 aB (aa HX) eM rfl (by rw[←(aa HU).1];exact gZ U) ?_)
    | fail)
   (try simp only[Exit.inBlock,Exit.then])
   refine bK (dM rfl _ _ (w.heap.size+1) 24 #[.int .i64 T.k,.string ⟨#[]⟩,.int .i64 T.n,.string ⟨#[]⟩,v] (0,0) _ rfl (bW _ _ _ _ _ _ (aa HX)) underlying24 rfl eM) rfl ?_;exact⟨⟨U,by have h:=(aa HU).1;unfold ai at h;rw[h],(aa HU).2.1,((aa HU).2.2.setRow (by omega) _).mono (by omega)⟩,ed (aa HK).bel _ (by omega) _⟩
theorem J5 {T:PT} (ih:∀i,i < T.len→oM (T.kid i)) (hc:T.k=3):oM T:=by
 intro w hT aA;have HA:=ab hT;have gO:=ab aA;have gR:=ab (iK aA).2;have IH:=ab ih;have ej:Hid (T.len≤4096):=ab (by have:=wU T.k;have:=(oK (iK aA).1).2.2.2.2.2;omega)
 have kq:Hid (⟨#[]⟩=if T.k=1 then T.t else ByteArray.empty):=ab (by rw[ac (by omega)];rfl)
 have dd:Hid (0=if T.k=2 then T.n else 0):=ab (by rw[ac (by omega)])
 have eF:Hid (T.nm=if ck T.k=true then T.nm else ByteArray.empty):=ab (by rw[af (by unfold ck;exact fk (by omega))])
 have e1:(T.k==1)=false:=bn;have e2:(T.k==2)=false:=bn;have e3:(T.k==3)=true:=bt;obtain⟨W,hW⟩:∃W,W=((w.alloc (.cells (ai T) 24)).alloc (.cells aB 24)).alloc (.cells #[.int .i64 T.k,.string ⟨#[]⟩,.int .i64 0,.string T.nm,.slice none 0 0] 24):=⟨_,rfl⟩;have HB:Hid (Below w.heap.size w W):=ab (by rw[hW];exact((ba _).alloc (by simp) _).alloc (by simp;omega) _)
 have HO:Hid (W.heap[w.heap.size+1+1]? =some (.cells #[.int .i64 T.k,.string ⟨#[]⟩,.int .i64 0,.string T.nm,.slice none 0 0] 24 (0,0))):=ab (by rw[hW];exact ax (by simp))
 have HX:Hid (W.heap[w.heap.size+1]? =some (.cells aB 24 (0,0))):=ab (by rw[hW];exact ci (by simp) (ax (by simp)))
 have HP:Hid (W.heap[w.heap.size]? =some (.cells (ai T) 24 (0,0))):=ab (by rw[hW];exact ci (by simp;omega) (ci (by simp) (ax rfl)))
 have HW:=ab hW;have sn:¬w.heap.size=w.heap.size+1+1:=by omega
 have sj:¬w.heap.size+1+1=w.heap.size:=by omega
 clear hT aA ih hW hc;unfold pv;go_enter func28,ntmps28;go_wp2_with fail;rw[show ((w.alloc (.cells #[.int .i64 T.k,.string T.t,.int .i64 T.n,.string T.nm,.slice T.xa T.len T.cap] 24)).alloc (.cells #[.int .i64 0,.string ⟨#[]⟩,.int .i64 0,.string ⟨#[]⟩,.slice none 0 0] 24)).alloc (.cells #[.int .i64 T.k,.string ⟨#[]⟩,.int .i64 0,.string T.nm,.slice none 0 0] 24)=W from (aa HW).symm];clear HW;have aF:Hid (XBre w T ⟨#[]⟩ 0 T.nm W (.slice none 0 0) 0 []):=ab (⟨aa HP,aa HX,aa HO,aa HB,KidsX.nil⟩);clear HP HX HO HB;go_loopw [31] (fun x wr=>∃(k:Nat) (v:Value) (L:List PT),k≤T.len∧x=.int .i64 (k:Int)∧Hid (XBre w T ⟨#[]⟩ 0 T.nm wr v k L)) (fun x _=>T.len - (intOf x).toNat)
 case atStart=>exact⟨0,_,[],cU _,rfl,aa aF⟩
 case round=>
  obtain⟨k,v,L,hk,rfl,HK⟩:=hrel;clear aF;have fO:=aa ej;rcases cG k T.len with au | gD
  ·have g1:(k:Int) < (T.len:Int):=by omega
   have lo:=ms (aa HA) au;have bq:=(aa HA).cells au;unfold PT.kv at bq;have HC:=ab (fun W (hb:Below w.heap.size w W)=>aa IH k au W (PT.In.later hb ((aa HA).kids au)) (aa gR k au))
   have cd:=(fun (i:Nat) (x:Value) (h:w.cell? ⟨T.b,i,none⟩=some x)=>av (aa HK).bel h)
   have a0:=cd _ _ bq.1;have a1:=cd _ _ bq.2.1;have a2:=cd _ _ bq.2.2.1;have a3:=cd _ _ bq.2.2.2.1;have a4:=cd _ _ bq.2.2.2.2;clear cd bq;obtain⟨P,hP⟩:∃P,T.kid k=P:=⟨_,rfl⟩;rw[hP] at HC a0 a1 a2 a3 a4;have kh:=ab hP;clear hP;unfold pv at HC;have hb3:Below wr.heap.size wr (wr.alloc (.cells (ai P) 24)):=ba _;have hq:(wr.alloc (.cells (ai P) 24)).heap[wr.heap.size]? =some (.cells (ai P) 24 (0,0)):=ax rfl;have kj:=ab (an (aa HK).out hb3);have ao:=ab hb3;have dG:=ab hq;go_wp2_with fail;rw[show (#[.int .i64 P.k,.string P.t,.int .i64 P.n,.string P.nm,.slice P.xa P.len P.cap]:Array Value)=ai P from rfl];generalize (wr.alloc (.cells (ai P) 24))=w3 at *;obtain⟨q0,q1,q2,q3,q4⟩:=du (aa dG);obtain⟨o0,o1,o2,o3,o4⟩:=du (aa kj);clear hq hb3 a0 a1 a2 a3 a4 o0 o1 o2 o3;have dW:=ab (aa HK).lt;obtain⟨S0,aN⟩:∃S0:World→Prop,S0=fun w'=>w'.cell? ⟨w.heap.size+1+1,4,none⟩=some v∧w'.cell? ⟨wr.heap.size,0,none⟩=some (.int .i64 P.k)∧w'.cell? ⟨wr.heap.size,1,none⟩=some (.string P.t)∧w'.cell? ⟨wr.heap.size,2,none⟩=some (.int .i64 P.n)∧w'.cell? ⟨wr.heap.size,3,none⟩=some (.string P.nm)∧w'.cell? ⟨wr.heap.size,4,none⟩=some (.slice P.xa P.len P.cap):=⟨_,rfl⟩
   have ap:=ab aN;have hS:S0 w3.drew:=by rw[aN];exact⟨o4,q0,q1,q2,q3,q4⟩
   have aW:Hid (∀W,Below w3.heap.size w3 W→S0 W):=ab (fun W h=>by rw[aN];exact⟨av h o4,av h q0,av h q1,av h q2,av h q3,av h q4⟩)
   clear aN;refine gt 7 S0 ?_;intro F;refine aK F 0 ap hS ?_
   (try go_frame)
   refine aK F 1 ap hS ?_
   (try go_frame)
   refine aK F 2 ap hS ?_
   (try go_frame)
   refine ce 3 (fun K3 cC=> ?_)
   go_simp;have j4:Below w.heap.size w w3.drew:=(aq (aa HK).bel (aa ao)).drew;refine(aa HC _ j4).mono ?_;rintro e w4 ⟨⟨U,rfl,hU,hL⟩,hb4⟩;have hb4':Below w3.heap.size w3 w4:=aq (aV _ _).drew hb4;refine cC _ _ (aa aW _ hb4') ?_;refine ce 4 (fun K4 bw=> ?_)
   (try unfold pv)
   go_simp;have hb5:Below w4.heap.size w4 (w4.alloc (.cells (ai U) 24)):=ba _;refine bw _ _ (aa aW _ (aq hb4' hb5)) ?_;refine ce 5 (fun K5 dy=> ?_)
   have dn:bP (w4.alloc (.cells (ai U) 24)) (w.heap.size+1+1+1) 24 5 eH v L:=((aa HK).kids.row.later (aa ao)).later (aq hb4' hb5);have su:=(aa HK).len hk;refine qH underlying22 we rfl (by decide) (by decide) iX nU rfl (.tmp 36) (.tmp 39) rfl dn (by rw[dS];have:=aa dW;have:=hb4'.size;have:=(aa ao).size;omega) U w4.heap.size 1 rfl rfl vQ (by have:=aa ej;omega) ?_
   intro v' w6 aS bI dP;have dY:=ab ((aa HK).put au (aa ao) hb4' (by rw[hU,aa kh]) hL aS bI dP)
   have hfz:=cN w6 (w.heap.size+1+1) 4 _ _ (show w6.heap[w.heap.size+1+1]? =_ from oI dn bI (an (an (aa HK).out (aa ao)) (aq hb4' hb5)) (by omega))
   have ge:=(du (show w6.heap[w.heap.size+1+1]? =_ from oI dn bI (an (an (aa HK).out (aa ao)) (aq hb4' hb5)) (by omega))).2.2.2.2
   have ec:Hid (S0 w6):=ab (by
    rw[aa ap];have dN:w6.heap[wr.heap.size]? =_:=(bI.block wr.heap.size (gL (bC.1 (aa dG)).1 (aq hb4' hb5).size) (fun e=>by have h1:=((aa HK).kids.row.low e.symm).2;omega)).trans (an (aa dG) (aq hb4' hb5))
    obtain⟨z0,z1,z2,z3,z4⟩:=du dN;exact⟨ge,z0,z1,z2,z3,z4⟩)
   obtain⟨g6,cap6,dZ, -, -⟩:=aS.form (by simp)
   generalize (L++[U]).length=n6 at dZ;subst dZ;refine dy _ _ (aa ec) ?_;refine ce 6 (fun K6 gj=> ?_)
   go_simp;refine gj _ _ (aa ec) ?_;refine gy (by kernel_rfl) rfl (by kernel_rfl) (fun K7 gi=> ?_)
   clear aS bI dP dn hb5 hb4 hb4' hL hU hS q0 q1 q2 q3 q4 o4;go_simp;refine gi _ _ ?_
   (try simp only[aH,aJ,aG])
   (try go_frame)
   clear gi gj dy bw cC K7 K6 K5 K4 K3 F ap aW ge hfz;go_wp2_with fail;exact⟨⟨k+1,_,L++[U],by omega,rfl,aa dY⟩,by simp[intOf];omega⟩
  ·obtain rfl:k=T.len:=by omega
   have g1:¬(T.len:Int) < (T.len:Int):=by omega
   obtain⟨U,gh,d5,gg⟩:=(aa HK).fin (aa HA) (aa gO) (aa kq) (aa dd) (aa eF);obtain⟨o0,o1,o2,o3,o4⟩:=du (aa HK).out;have HX:=ab (aa HK).box;have HU:=ab (And.intro gh (And.intro d5 gg));have ay:=(aa HK).lt;clear gh d5 gg;go_wp2_with (first
    | (refine bh rfl 24 _ _ rfl (w.heap.size+1) #[.int .i64 T.k,.string ⟨#[]⟩,.int .i64 0,.string T.nm,v] rfl rfl 24 aB (aa HX) eM rfl (by rw[←(aa HU).1];exact gZ U) ?_)
    | fail)
   (try simp only[Exit.inBlock,Exit.then])
   refine bK (dM rfl _ _ (w.heap.size+1) 24 #[.int .i64 T.k,.string ⟨#[]⟩,.int .i64 0,.string T.nm,v] (0,0) _ rfl (bW _ _ _ _ _ _ (aa HX)) underlying24 rfl eM) rfl ?_;exact⟨⟨U,by have h:=(aa HU).1;unfold ai at h;rw[h],(aa HU).2.1,((aa HU).2.2.setRow (by omega) _).mono (by omega)⟩,ed (aa HK).bel _ (by omega) _⟩
theorem J4 {T:PT} (ih:∀i,i < T.len→oM (T.kid i)) (hc:T.k=4):oM T:=by
 intro w hT aA;have HA:=ab hT;have gO:=ab aA;have gR:=ab (iK aA).2;have IH:=ab ih;have ej:Hid (T.len≤4096):=ab (by have:=wU T.k;have:=(oK (iK aA).1).2.2.2.2.2;omega)
 have kq:Hid (⟨#[]⟩=if T.k=1 then T.t else ByteArray.empty):=ab (by rw[ac (by omega)];rfl)
 have dd:Hid (0=if T.k=2 then T.n else 0):=ab (by rw[ac (by omega)])
 have eF:Hid (T.nm=if ck T.k=true then T.nm else ByteArray.empty):=ab (by rw[af (by unfold ck;exact fk (by omega))])
 have e1:(T.k==1)=false:=bn;have e2:(T.k==2)=false:=bn;have e3:(T.k==3)=false:=bn;have e4:(T.k==4)=true:=bt;obtain⟨W,hW⟩:∃W,W=((w.alloc (.cells (ai T) 24)).alloc (.cells aB 24)).alloc (.cells #[.int .i64 T.k,.string ⟨#[]⟩,.int .i64 0,.string T.nm,.slice none 0 0] 24):=⟨_,rfl⟩;have HB:Hid (Below w.heap.size w W):=ab (by rw[hW];exact((ba _).alloc (by simp) _).alloc (by simp;omega) _)
 have HO:Hid (W.heap[w.heap.size+1+1]? =some (.cells #[.int .i64 T.k,.string ⟨#[]⟩,.int .i64 0,.string T.nm,.slice none 0 0] 24 (0,0))):=ab (by rw[hW];exact ax (by simp))
 have HX:Hid (W.heap[w.heap.size+1]? =some (.cells aB 24 (0,0))):=ab (by rw[hW];exact ci (by simp) (ax (by simp)))
 have HP:Hid (W.heap[w.heap.size]? =some (.cells (ai T) 24 (0,0))):=ab (by rw[hW];exact ci (by simp;omega) (ci (by simp) (ax rfl)))
 have HW:=ab hW;have sn:¬w.heap.size=w.heap.size+1+1:=by omega
 have sj:¬w.heap.size+1+1=w.heap.size:=by omega
 clear hT aA ih hW hc;unfold pv;go_enter func28,ntmps28;go_wp2_with fail;rw[show ((w.alloc (.cells #[.int .i64 T.k,.string T.t,.int .i64 T.n,.string T.nm,.slice T.xa T.len T.cap] 24)).alloc (.cells #[.int .i64 0,.string ⟨#[]⟩,.int .i64 0,.string ⟨#[]⟩,.slice none 0 0] 24)).alloc (.cells #[.int .i64 T.k,.string ⟨#[]⟩,.int .i64 0,.string T.nm,.slice none 0 0] 24)=W from (aa HW).symm];clear HW;have aF:Hid (XBre w T ⟨#[]⟩ 0 T.nm W (.slice none 0 0) 0 []):=ab (⟨aa HP,aa HX,aa HO,aa HB,KidsX.nil⟩);clear HP HX HO HB;go_loopw [31] (fun x wr=>∃(k:Nat) (v:Value) (L:List PT),k≤T.len∧x=.int .i64 (k:Int)∧Hid (XBre w T ⟨#[]⟩ 0 T.nm wr v k L)) (fun x _=>T.len - (intOf x).toNat)
 case atStart=>exact⟨0,_,[],cU _,rfl,aa aF⟩
 case round=>
  obtain⟨k,v,L,hk,rfl,HK⟩:=hrel;clear aF;have fO:=aa ej;rcases cG k T.len with au | gD
  ·have g1:(k:Int) < (T.len:Int):=by omega
   have lo:=ms (aa HA) au;have bq:=(aa HA).cells au;unfold PT.kv at bq;have HC:=ab (fun W (hb:Below w.heap.size w W)=>aa IH k au W (PT.In.later hb ((aa HA).kids au)) (aa gR k au))
   have cd:=(fun (i:Nat) (x:Value) (h:w.cell? ⟨T.b,i,none⟩=some x)=>av (aa HK).bel h)
   have a0:=cd _ _ bq.1;have a1:=cd _ _ bq.2.1;have a2:=cd _ _ bq.2.2.1;have a3:=cd _ _ bq.2.2.2.1;have a4:=cd _ _ bq.2.2.2.2;clear cd bq;obtain⟨P,hP⟩:∃P,T.kid k=P:=⟨_,rfl⟩;rw[hP] at HC a0 a1 a2 a3 a4;have kh:=ab hP;clear hP;unfold pv at HC;have hb3:Below wr.heap.size wr (wr.alloc (.cells (ai P) 24)):=ba _;have hq:(wr.alloc (.cells (ai P) 24)).heap[wr.heap.size]? =some (.cells (ai P) 24 (0,0)):=ax rfl;have kj:=ab (an (aa HK).out hb3);have ao:=ab hb3;have dG:=ab hq;go_wp2_with fail;rw[show (#[.int .i64 P.k,.string P.t,.int .i64 P.n,.string P.nm,.slice P.xa P.len P.cap]:Array Value)=ai P from rfl];generalize (wr.alloc (.cells (ai P) 24))=w3 at *;obtain⟨q0,q1,q2,q3,q4⟩:=du (aa dG);obtain⟨o0,o1,o2,o3,o4⟩:=du (aa kj);clear hq hb3 a0 a1 a2 a3 a4 o0 o1 o2 o3;have dW:=ab (aa HK).lt;obtain⟨S0,aN⟩:∃S0:World→Prop,S0=fun w'=>w'.cell? ⟨w.heap.size+1+1,4,none⟩=some v∧w'.cell? ⟨wr.heap.size,0,none⟩=some (.int .i64 P.k)∧w'.cell? ⟨wr.heap.size,1,none⟩=some (.string P.t)∧w'.cell? ⟨wr.heap.size,2,none⟩=some (.int .i64 P.n)∧w'.cell? ⟨wr.heap.size,3,none⟩=some (.string P.nm)∧w'.cell? ⟨wr.heap.size,4,none⟩=some (.slice P.xa P.len P.cap):=⟨_,rfl⟩
   have ap:=ab aN;have hS:S0 w3.drew:=by rw[aN];exact⟨o4,q0,q1,q2,q3,q4⟩
   have aW:Hid (∀W,Below w3.heap.size w3 W→S0 W):=ab (fun W h=>by rw[aN];exact⟨av h o4,av h q0,av h q1,av h q2,av h q3,av h q4⟩)
   clear aN;refine gt 7 S0 ?_;intro F;refine aK F 0 ap hS ?_
   (try go_frame)
   refine aK F 1 ap hS ?_
   (try go_frame)
   refine aK F 2 ap hS ?_
   (try go_frame)
   refine ce 3 (fun K3 cC=> ?_)
   go_simp;have j4:Below w.heap.size w w3.drew:=(aq (aa HK).bel (aa ao)).drew;refine(aa HC _ j4).mono ?_;rintro e w4 ⟨⟨U,rfl,hU,hL⟩,hb4⟩;have hb4':Below w3.heap.size w3 w4:=aq (aV _ _).drew hb4;refine cC _ _ (aa aW _ hb4') ?_;refine ce 4 (fun K4 bw=> ?_)
   (try unfold pv)
   go_simp;have hb5:Below w4.heap.size w4 (w4.alloc (.cells (ai U) 24)):=ba _;refine bw _ _ (aa aW _ (aq hb4' hb5)) ?_;refine ce 5 (fun K5 dy=> ?_)
   have dn:bP (w4.alloc (.cells (ai U) 24)) (w.heap.size+1+1+1) 24 5 eH v L:=((aa HK).kids.row.later (aa ao)).later (aq hb4' hb5);have su:=(aa HK).len hk;refine qH underlying22 we rfl (by decide) (by decide) iX nU rfl (.tmp 36) (.tmp 39) rfl dn (by rw[dS];have:=aa dW;have:=hb4'.size;have:=(aa ao).size;omega) U w4.heap.size 1 rfl rfl vQ (by have:=aa ej;omega) ?_
   intro v' w6 aS bI dP;have dY:=ab ((aa HK).put au (aa ao) hb4' (by rw[hU,aa kh]) hL aS bI dP)
   have hfz:=cN w6 (w.heap.size+1+1) 4 _ _ (show w6.heap[w.heap.size+1+1]? =_ from oI dn bI (an (an (aa HK).out (aa ao)) (aq hb4' hb5)) (by omega))
   have ge:=(du (show w6.heap[w.heap.size+1+1]? =_ from oI dn bI (an (an (aa HK).out (aa ao)) (aq hb4' hb5)) (by omega))).2.2.2.2
   have ec:Hid (S0 w6):=ab (by
    rw[aa ap];have dN:w6.heap[wr.heap.size]? =_:=(bI.block wr.heap.size (gL (bC.1 (aa dG)).1 (aq hb4' hb5).size) (fun e=>by have h1:=((aa HK).kids.row.low e.symm).2;omega)).trans (an (aa dG) (aq hb4' hb5))
    obtain⟨z0,z1,z2,z3,z4⟩:=du dN;exact⟨ge,z0,z1,z2,z3,z4⟩)
   obtain⟨g6,cap6,dZ, -, -⟩:=aS.form (by simp)
   generalize (L++[U]).length=n6 at dZ;subst dZ;refine dy _ _ (aa ec) ?_;refine ce 6 (fun K6 gj=> ?_)
   go_simp;refine gj _ _ (aa ec) ?_;refine gy (by kernel_rfl) rfl (by kernel_rfl) (fun K7 gi=> ?_)
   clear aS bI dP dn hb5 hb4 hb4' hL hU hS q0 q1 q2 q3 q4 o4;go_simp;refine gi _ _ ?_
   (try simp only[aH,aJ,aG])
   (try go_frame)
   clear gi gj dy bw cC K7 K6 K5 K4 K3 F ap aW ge hfz;go_wp2_with fail;exact⟨⟨k+1,_,L++[U],by omega,rfl,aa dY⟩,by simp[intOf];omega⟩
  ·obtain rfl:k=T.len:=by omega
   have g1:¬(T.len:Int) < (T.len:Int):=by omega
   obtain⟨U,gh,d5,gg⟩:=(aa HK).fin (aa HA) (aa gO) (aa kq) (aa dd) (aa eF);obtain⟨o0,o1,o2,o3,o4⟩:=du (aa HK).out;have HX:=ab (aa HK).box;have HU:=ab (And.intro gh (And.intro d5 gg));have ay:=(aa HK).lt;clear gh d5 gg;go_wp2_with (first
    | (refine bh rfl 24 _ _ rfl (w.heap.size+1) #[.int .i64 T.k,.string ⟨#[]⟩,.int .i64 0,.string T.nm,v] rfl rfl 24 aB (aa HX) eM rfl (by rw[←(aa HU).1];exact gZ U) ?_)
    | fail)
   (try simp only[Exit.inBlock,Exit.then])
   refine bK (dM rfl _ _ (w.heap.size+1) 24 #[.int .i64 T.k,.string ⟨#[]⟩,.int .i64 0,.string T.nm,v] (0,0) _ rfl (bW _ _ _ _ _ _ (aa HX)) underlying24 rfl eM) rfl ?_;exact⟨⟨U,by have h:=(aa HU).1;unfold ai at h;rw[h],(aa HU).2.1,((aa HU).2.2.setRow (by omega) _).mono (by omega)⟩,ed (aa HK).bel _ (by omega) _⟩
theorem J3 {T:PT} (ih:∀i,i < T.len→oM (T.kid i)) (hc:T.k=6):oM T:=by
 intro w hT aA;have HA:=ab hT;have gO:=ab aA;have gR:=ab (iK aA).2;have IH:=ab ih;have ej:Hid (T.len≤4096):=ab (by have:=wU T.k;have:=(oK (iK aA).1).2.2.2.2.2;omega)
 have kq:Hid (⟨#[]⟩=if T.k=1 then T.t else ByteArray.empty):=ab (by rw[ac (by omega)];rfl)
 have dd:Hid (0=if T.k=2 then T.n else 0):=ab (by rw[ac (by omega)])
 have eF:Hid (T.nm=if ck T.k=true then T.nm else ByteArray.empty):=ab (by rw[af (by unfold ck;exact fk (by omega))])
 have e1:(T.k==1)=false:=bn;have e2:(T.k==2)=false:=bn;have e3:(T.k==3)=false:=bn;have e4:(T.k==4)=false:=bn;have e6:(T.k==6)=true:=bt;obtain⟨W,hW⟩:∃W,W=((w.alloc (.cells (ai T) 24)).alloc (.cells aB 24)).alloc (.cells #[.int .i64 T.k,.string ⟨#[]⟩,.int .i64 0,.string T.nm,.slice none 0 0] 24):=⟨_,rfl⟩;have HB:Hid (Below w.heap.size w W):=ab (by rw[hW];exact((ba _).alloc (by simp) _).alloc (by simp;omega) _)
 have HO:Hid (W.heap[w.heap.size+1+1]? =some (.cells #[.int .i64 T.k,.string ⟨#[]⟩,.int .i64 0,.string T.nm,.slice none 0 0] 24 (0,0))):=ab (by rw[hW];exact ax (by simp))
 have HX:Hid (W.heap[w.heap.size+1]? =some (.cells aB 24 (0,0))):=ab (by rw[hW];exact ci (by simp) (ax (by simp)))
 have HP:Hid (W.heap[w.heap.size]? =some (.cells (ai T) 24 (0,0))):=ab (by rw[hW];exact ci (by simp;omega) (ci (by simp) (ax rfl)))
 have HW:=ab hW;have sn:¬w.heap.size=w.heap.size+1+1:=by omega
 have sj:¬w.heap.size+1+1=w.heap.size:=by omega
 clear hT aA ih hW hc;unfold pv;go_enter func28,ntmps28;go_wp2_with fail;rw[show ((w.alloc (.cells #[.int .i64 T.k,.string T.t,.int .i64 T.n,.string T.nm,.slice T.xa T.len T.cap] 24)).alloc (.cells #[.int .i64 0,.string ⟨#[]⟩,.int .i64 0,.string ⟨#[]⟩,.slice none 0 0] 24)).alloc (.cells #[.int .i64 T.k,.string ⟨#[]⟩,.int .i64 0,.string T.nm,.slice none 0 0] 24)=W from (aa HW).symm];clear HW;have aF:Hid (XBre w T ⟨#[]⟩ 0 T.nm W (.slice none 0 0) 0 []):=ab (⟨aa HP,aa HX,aa HO,aa HB,KidsX.nil⟩);clear HP HX HO HB;go_loopw [31] (fun x wr=>∃(k:Nat) (v:Value) (L:List PT),k≤T.len∧x=.int .i64 (k:Int)∧Hid (XBre w T ⟨#[]⟩ 0 T.nm wr v k L)) (fun x _=>T.len - (intOf x).toNat)
 case atStart=>exact⟨0,_,[],cU _,rfl,aa aF⟩
 case round=>
  obtain⟨k,v,L,hk,rfl,HK⟩:=hrel;clear aF;have fO:=aa ej;rcases cG k T.len with au | gD
  ·have g1:(k:Int) < (T.len:Int):=by omega
   have lo:=ms (aa HA) au;have bq:=(aa HA).cells au;unfold PT.kv at bq;have HC:=ab (fun W (hb:Below w.heap.size w W)=>aa IH k au W (PT.In.later hb ((aa HA).kids au)) (aa gR k au))
   have cd:=(fun (i:Nat) (x:Value) (h:w.cell? ⟨T.b,i,none⟩=some x)=>av (aa HK).bel h)
   have a0:=cd _ _ bq.1;have a1:=cd _ _ bq.2.1;have a2:=cd _ _ bq.2.2.1;have a3:=cd _ _ bq.2.2.2.1;have a4:=cd _ _ bq.2.2.2.2;clear cd bq;obtain⟨P,hP⟩:∃P,T.kid k=P:=⟨_,rfl⟩;rw[hP] at HC a0 a1 a2 a3 a4;have kh:=ab hP;clear hP;unfold pv at HC;have hb3:Below wr.heap.size wr (wr.alloc (.cells (ai P) 24)):=ba _;have hq:(wr.alloc (.cells (ai P) 24)).heap[wr.heap.size]? =some (.cells (ai P) 24 (0,0)):=ax rfl;have kj:=ab (an (aa HK).out hb3);have ao:=ab hb3;have dG:=ab hq;go_wp2_with fail;rw[show (#[.int .i64 P.k,.string P.t,.int .i64 P.n,.string P.nm,.slice P.xa P.len P.cap]:Array Value)=ai P from rfl];generalize (wr.alloc (.cells (ai P) 24))=w3 at *;obtain⟨q0,q1,q2,q3,q4⟩:=du (aa dG);obtain⟨o0,o1,o2,o3,o4⟩:=du (aa kj);clear hq hb3 a0 a1 a2 a3 a4 o0 o1 o2 o3;have dW:=ab (aa HK).lt;obtain⟨S0,aN⟩:∃S0:World→Prop,S0=fun w'=>w'.cell? ⟨w.heap.size+1+1,4,none⟩=some v∧w'.cell? ⟨wr.heap.size,0,none⟩=some (.int .i64 P.k)∧w'.cell? ⟨wr.heap.size,1,none⟩=some (.string P.t)∧w'.cell? ⟨wr.heap.size,2,none⟩=some (.int .i64 P.n)∧w'.cell? ⟨wr.heap.size,3,none⟩=some (.string P.nm)∧w'.cell? ⟨wr.heap.size,4,none⟩=some (.slice P.xa P.len P.cap):=⟨_,rfl⟩
   have ap:=ab aN;have hS:S0 w3.drew:=by rw[aN];exact⟨o4,q0,q1,q2,q3,q4⟩
   have aW:Hid (∀W,Below w3.heap.size w3 W→S0 W):=ab (fun W h=>by rw[aN];exact⟨av h o4,av h q0,av h q1,av h q2,av h q3,av h q4⟩)
   clear aN;refine gt 7 S0 ?_;intro F;refine aK F 0 ap hS ?_
   (try go_frame)
   refine aK F 1 ap hS ?_
   (try go_frame)
   refine aK F 2 ap hS ?_
   (try go_frame)
   refine ce 3 (fun K3 cC=> ?_)
   go_simp;have j4:Below w.heap.size w w3.drew:=(aq (aa HK).bel (aa ao)).drew;refine(aa HC _ j4).mono ?_;rintro e w4 ⟨⟨U,rfl,hU,hL⟩,hb4⟩;have hb4':Below w3.heap.size w3 w4:=aq (aV _ _).drew hb4;refine cC _ _ (aa aW _ hb4') ?_;refine ce 4 (fun K4 bw=> ?_)
   (try unfold pv)
   go_simp;have hb5:Below w4.heap.size w4 (w4.alloc (.cells (ai U) 24)):=ba _;refine bw _ _ (aa aW _ (aq hb4' hb5)) ?_;refine ce 5 (fun K5 dy=> ?_)
   have dn:bP (w4.alloc (.cells (ai U) 24)) (w.heap.size+1+1+1) 24 5 eH v L:=((aa HK).kids.row.later (aa ao)).later (aq hb4' hb5);have su:=(aa HK).len hk;refine qH underlying22 we rfl (by decide) (by decide) iX nU rfl (.tmp 36) (.tmp 39) rfl dn (by rw[dS];have:=aa dW;have:=hb4'.size;have:=(aa ao).size;omega) U w4.heap.size 1 rfl rfl vQ (by have:=aa ej;omega) ?_
   intro v' w6 aS bI dP;have dY:=ab ((aa HK).put au (aa ao) hb4' (by rw[hU,aa kh]) hL aS bI dP)
   have hfz:=cN w6 (w.heap.size+1+1) 4 _ _ (show w6.heap[w.heap.size+1+1]? =_ from oI dn bI (an (an (aa HK).out (aa ao)) (aq hb4' hb5)) (by omega))
   have ge:=(du (show w6.heap[w.heap.size+1+1]? =_ from oI dn bI (an (an (aa HK).out (aa ao)) (aq hb4' hb5)) (by omega))).2.2.2.2
   have ec:Hid (S0 w6):=ab (by
    rw[aa ap];have dN:w6.heap[wr.heap.size]? =_:=(bI.block wr.heap.size (gL (bC.1 (aa dG)).1 (aq hb4' hb5).size) (fun e=>by have h1:=((aa HK).kids.row.low e.symm).2;omega)).trans (an (aa dG) (aq hb4' hb5))
    obtain⟨z0,z1,z2,z3,z4⟩:=du dN;exact⟨ge,z0,z1,z2,z3,z4⟩)
   obtain⟨g6,cap6,dZ, -, -⟩:=aS.form (by simp)
   generalize (L++[U]).length=n6 at dZ;subst dZ;refine dy _ _ (aa ec) ?_;refine ce 6 (fun K6 gj=> ?_)
   go_simp;refine gj _ _ (aa ec) ?_;refine gy (by kernel_rfl) rfl (by kernel_rfl) (fun K7 gi=> ?_)
   clear aS bI dP dn hb5 hb4 hb4' hL hU hS q0 q1 q2 q3 q4 o4;go_simp;refine gi _ _ ?_
   (try simp only[aH,aJ,aG])
   (try go_frame)
   clear gi gj dy bw cC K7 K6 K5 K4 K3 F ap aW ge hfz;go_wp2_with fail;exact⟨⟨k+1,_,L++[U],by omega,rfl,aa dY⟩,by simp[intOf];omega⟩
  ·obtain rfl:k=T.len:=by omega
   have g1:¬(T.len:Int) < (T.len:Int):=by omega
   obtain⟨U,gh,d5,gg⟩:=(aa HK).fin (aa HA) (aa gO) (aa kq) (aa dd) (aa eF);obtain⟨o0,o1,o2,o3,o4⟩:=du (aa HK).out;have HX:=ab (aa HK).box;have HU:=ab (And.intro gh (And.intro d5 gg));have ay:=(aa HK).lt;clear gh d5 gg;go_wp2_with (first
    | (refine bh rfl 24 _ _ rfl (w.heap.size+1) #[.int .i64 T.k,.string ⟨#[]⟩,.int .i64 0,.string T.nm,v] rfl rfl 24 aB (aa HX) eM rfl (by rw[←(aa HU).1];exact gZ U) ?_)
    | fail)
   (try simp only[Exit.inBlock,Exit.then])
   refine bK (dM rfl _ _ (w.heap.size+1) 24 #[.int .i64 T.k,.string ⟨#[]⟩,.int .i64 0,.string T.nm,v] (0,0) _ rfl (bW _ _ _ _ _ _ (aa HX)) underlying24 rfl eM) rfl ?_;exact⟨⟨U,by have h:=(aa HU).1;unfold ai at h;rw[h],(aa HU).2.1,((aa HU).2.2.setRow (by omega) _).mono (by omega)⟩,ed (aa HK).bel _ (by omega) _⟩
theorem Fp:∀T:PT,oM T:=PT.ind fun T ih=>by
 intro w hT aA;obtain⟨⟨k1,tF⟩, -⟩:=oK (iK aA).1;rcases (show T.k=1∨T.k=2∨T.k=3∨T.k=4∨T.k=6∨(T.k=5∨7≤T.k) by omega) with h | h | h | h | h | h
 ·exact LK ih h w hT aA
 ·exact M7 ih h w hT aA
 ·exact J5 ih h w hT aA
 ·exact J4 ih h w hT aA
 ·exact J3 ih h w hT aA
 ·exact LM ih h w hT aA
open Go.RowKit
def lnW (w:World) (C:Array Value) (a b:Int):World:=((((w.alloc (.cells Z24 30)).alloc (.cells #[.int .i64 0,.int .i64 0] 36)).setRow w.heap.size C).setRow (w.heap.size+1) #[.int .i64 a,.int .i64 b])
theorem lnb (w:World) (C:Array Value) (a b:Int):Below w.heap.size w (lnW w C a b)∧(lnW w C a b).heap[w.heap.size]? =some (.cells C 30 (0,0))∧(lnW w C a b).heap[w.heap.size+1]? =some (.cells #[.int .i64 a,.int .i64 b] 36 (0,0)):=by
 have h0:((w.alloc (.cells Z24 30)).alloc (.cells #[.int .i64 0,.int .i64 0] 36)).heap[w.heap.size]? =some (.cells Z24 30 (0,0)):=ci (by simp) (ax rfl)
 have h1:((w.alloc (.cells Z24 30)).alloc (.cells #[.int .i64 0,.int .i64 0] 36)).heap[w.heap.size+1]? =some (.cells #[.int .i64 0,.int .i64 0] 36 (0,0)):=ax (by simp)
 have hb:Below w.heap.size w ((w.alloc (.cells Z24 30)).alloc (.cells #[.int .i64 0,.int .i64 0] 36)):=(ba _).alloc (by simp) _
 refine⟨ed (ed hb _ (aw _) _) _ (by omega) _, ?_, ?_⟩
 ·exact(eZ _ _ _ _ (by omega)).trans (bW _ _ _ _ _ _ h0)
 ·exact bW _ _ _ _ _ _ ((eZ _ _ _ _ (by omega)).trans h1)
open Go.RowKit
def tAl:ByteArray:=⟨#[76,32,88,32,61,32,39,97,39,32,38,32,50,32,58,83,40,77,41]⟩
def sAl:SV:=⟨⟨#[76]⟩,3,aP 3 ByteArray.empty 0 ⟨#[88]⟩ [],aP 8 ByteArray.empty 0 ByteArray.empty [aP 1 ⟨#[97]⟩ 0 ByteArray.empty [],aP 2 ByteArray.empty 2 ByteArray.empty []],PT.nul,ByteArray.empty,ByteArray.empty,fA [],fA [],ByteArray.empty,⟨#[77]⟩,ByteArray.empty⟩
theorem EB:ar (bT sAl)=[76,32,88,32,61,32,39,97,39,32,38,32,50,32,58,83,40,77,41]:=by kernel_rfl
theorem Js:sAl.wrong=0:=by kernel_rfl
theorem sAl_ln:jb tAl=.ok (some sAl.bst):=by
 have h:=GD Js (show sAl.tg.ns from ⟨by decide,fun i=>i.elim0⟩) (show sAl.va.ns from ⟨by decide,fun i=>by
  obtain⟨i,hi⟩:=i;have hi:i < 2:=hi;have h:i=0∨i=1:=by omega
  rcases h with rfl | rfl
  ·exact⟨by decide,fun i=>i.elim0⟩
  ·exact⟨by decide,fun i=>i.elim0⟩⟩) (by rw[EB];decide)
 rw[EB] at h;exact h
theorem Ig (w:World) (hW:SyW w) (m:Int) (hm:w.cell? ⟨2,0,none⟩=some (.int .i64 m)):Calls prog 6 #[] w fun e w'=>e=.returned (.bool true)∧Below w.heap.size w w':=by
 have HL:=ab (Dl tAl w (by decide) hW m hm)
 have HP:=ab sAl_ln;unfold tAl at HL HP;clear hW hm;go_enter func6,ntmps6;go_wp2_with fail;refine(aa HL).mono ?_;rintro e w1 ⟨hb1, -, -,ou⟩;obtain⟨S,rfl,hS, -⟩:=ou _ (aa HP);obtain⟨C,hC⟩:∃C,C=S.cells:=⟨_,rfl⟩;have dI:S.v=.agg C:=by rw[hC];rfl
 have iF:Hid (C.size=24):=ab (by rw[hC];rfl)
 have dp:Hid (C.all (·.oneCell')=true):=ab (by rw[hC];exact SV.cells_one _)
 have k0:S.lab=⟨#[76]⟩:=aD SV.lab hS;have k1:S.k=3:=aD SV.k hS;have k7:S.va.k=8:=by
  have h:=aD (fun U:SV=>U.va.k) hS
  have e:S.can.va.k=S.va.k:=yA S.va;rw[←e];exact h
 have k22:S.ye=⟨#[77]⟩:=aD SV.ye hS;have rE:Hid (C[0]? =some (.string ⟨#[76]⟩)∧C[1]? =some (.int .i64 3)∧C[7]? =some (.int .i64 8)∧C[22]? =some (.string ⟨#[77]⟩)):=ab (⟨by rw[hC,←k0];rfl,by rw[hC,←k1];rfl,by rw[hC,←k7];rfl,by rw[hC,←k22];rfl⟩)
 have aX:=ab hb1;rw[dI];unfold cY;clear ou hS hC dI k0 k1 k7 k22 hb1 HL HP;have kS:Hid (((w1.alloc (.cells Z24 30)).alloc (.cells #[.int .i64 0,.int .i64 0] 36)).heap[w1.heap.size]? =some (.cells cc.cells 30 (0,0))):=ab (ci (by simp) (ax rfl))
 have iW:Hid ((((w1.alloc (.cells Z24 30)).alloc (.cells #[.int .i64 0,.int .i64 0] 36)).setRow w1.heap.size C).heap[w1.heap.size+1]? =some (.cells #[.int .i64 0,.int .i64 0] 36 (0,0))):=ab ((eZ _ _ _ _ (by omega)).trans (ax (by simp)))
 obtain⟨W2,me⟩:∃W,W=lnW w1 C 0 0:=⟨_,rfl⟩;have tY:=ab (lnb w1 C 0 0);rw[←me] at tY;have bG:=ab me;clear me;go_upto_region 2 with (first
  | (refine bh rfl 30 _ _ rfl w1.heap.size C rfl rfl 30 cc.cells (by with_reducible exact aa kS) (de.trans (by rw[aa iF])) (by rw[aa iF];rfl) (aa dp) ?_)
  | (refine bh rfl 36 _ _ rfl (w1.heap.size+1) #[.int .i64 0,.int .i64 0] rfl rfl 36 #[.int .i64 0,.int .i64 0] (by with_reducible exact aa iW) fh rfl (by simp[Value.oneCell']) ?_)
  | fail)
 rw[show ((((w1.alloc (.cells Z24 30)).alloc (.cells #[.int .i64 0,.int .i64 0] 36)).setRow w1.heap.size C).setRow (w1.heap.size+1) #[.int .i64 0,.int .i64 0])=W2 from (aa bG).symm];clear kS iW bG;obtain⟨hbW,sp,hf2⟩:=aa tY;obtain⟨c0,c1,c7,nI⟩:=aa rE;have e0:=aY sp c0;have e1:=aY sp c1;have e7:=aY sp c7;have vt:=aY sp nI;obtain⟨f0, -⟩:=jX hf2;have aE:=ab (aq (aa aX) hbW);clear hbW sp hf2 c0 c1 c7 nI tY rE;go_wp2_with fail;go_ret;exact⟨rfl,aa aE⟩
end Go.Proofs.YtlmnjbipfacniaaGreatDoor
