/- The document's Bare: more kinds. The document's Bare: more k -/
import Derived.Test.YtlmnjbipfacniaaGreatDoorRtBare3Ms
set_option maxRecDepth 100000
set_option maxHeartbeats 4000000
namespace Go.Proofs.YtlmnjbipfacniaaGreatDoor
open Go.Proofs.Tryz
open Go.RowKit
theorem LO {T:PT} (ih:∀i,i < T.len→qK (T.kid i)) (hc:T.k=2∨(8≤T.k∧T.k≤11)):qK T:=by
 intro w hT aA;have HA:=ab hT;have gO:=ab aA;have gR:=ab (fG aA).2;have IH:=ab ih;have ej:Hid (T.len≤4096):=ab (by
  obtain⟨-, -, -, -, -, -,jz⟩:=jo (fG aA).1;unfold cM at jz;split at jz
  ·omega
  ·split at jz <;> omega)
 have kq:Hid (⟨#[]⟩=if aO T.k=1 then T.t else ⟨#[]⟩):=ab (by rw[ac (by intro q;unfold aO at q;split at q <;> (try split at q) <;> (try split at q) <;> omega)])
 have dd:Hid (T.n=if aO T.k=2 then T.n else 0):=ab (by rw[af (by unfold aO;rw[ac (by omega),af (by omega)])])
 have eF:Hid (⟨#[]⟩=if aO T.k=3 then T.nm else ⟨#[]⟩):=ab (by rw[ac (by intro q;unfold aO at q;split at q <;> (try split at q) <;> (try split at q) <;> omega)])
 have e1:(T.k==1)=false:=bn;have HT:Hid (pO T.k=false):=ab (by unfold pO;exact db (by simp;omega))
 have HN:Hid (pQ T.k=true):=ab (by unfold pQ;exact fk (by simp;omega))
 have HM:Hid (qO T.k=false):=ab (by unfold qO;exact db (by simp;omega))
 obtain⟨W,hW⟩:∃W,W=((w.alloc (.cells (ai T) 27)).alloc (.cells aB 27)).alloc (.cells #[.int .i64 T.k,.string ⟨#[]⟩,.int .i64 0,.string ⟨#[]⟩,.slice none 0 0] 27):=⟨_,rfl⟩;have HB:Hid (Below w.heap.size w W):=ab (by rw[hW];exact((ba _).alloc (by simp) _).alloc (by simp;omega) _)
 have HO:Hid (W.heap[w.heap.size+1+1]? =some (.cells #[.int .i64 T.k,.string ⟨#[]⟩,.int .i64 0,.string ⟨#[]⟩,.slice none 0 0] 27 (0,0))):=ab (by rw[hW];exact ax (by simp))
 have HX:Hid (W.heap[w.heap.size+1]? =some (.cells aB 27 (0,0))):=ab (by rw[hW];exact ci (by simp) (ax (by simp)))
 have HP:Hid (W.heap[w.heap.size]? =some (.cells (ai T) 27 (0,0))):=ab (by rw[hW];exact ci (by simp;omega) (ci (by simp) (ax rfl)))
 have HW:=ab hW;have sn:¬w.heap.size=w.heap.size+1+1:=by omega
 have sj:¬w.heap.size+1+1=w.heap.size:=by omega
 clear hT aA ih hW hc;unfold pv;go_enter func29,ntmps29;go_wp2_with fail;rw[show ((w.alloc (.cells #[.int .i64 T.k,.string T.t,.int .i64 T.n,.string T.nm,.slice T.xa T.len T.cap] 27)).alloc (.cells #[.int .i64 0,.string ⟨#[]⟩,.int .i64 0,.string ⟨#[]⟩,.slice none 0 0] 27)).alloc (.cells #[.int .i64 T.k,.string ⟨#[]⟩,.int .i64 0,.string ⟨#[]⟩,.slice none 0 0] 27)=W from (aa HW).symm];clear HW;refine(zm T.k _).mono ?_;rintro e W1 ⟨rfl,hb⟩;have HP:=ab (an (aa HP) hb);have HX:=ab (an (aa HX) hb);have HO:=ab (an (aa HO) hb);have HB:=ab (aq (aa HB) hb);clear hb;rw[aa HT];generalize W1=W at *;obtain⟨c0,c1,c2,c3,c4⟩:=ee (aa HP);obtain⟨o0,o1,o2,o3,o4⟩:=gS (aa HO);have of:=fun k=>cN W (w.heap.size+1+1) k _ _ (aa HO)
 go_wp2_with fail;clear c0 c1 c2 c3 c4 o0 o1 o2 o3 o4 of;refine(xI T.k _).mono ?_;rintro e W1 ⟨rfl,hb⟩;have HP:=ab (an (aa HP) hb);have HX:=ab (an (aa HX) hb);have HO:=ab (an (aa HO) hb);have HB:=ab (aq (aa HB) hb);clear hb;rw[aa HN];generalize W1=W at *;obtain⟨c0,c1,c2,c3,c4⟩:=ee (aa HP);obtain⟨o0,o1,o2,o3,o4⟩:=gS (aa HO);have of:=fun k=>cN W (w.heap.size+1+1) k _ _ (aa HO)
 go_wp2_with fail;clear c0 c1 c2 c3 c4 o0 o1 o2 o3 o4 of;have HP:Hid ((W.setCell ⟨w.heap.size+1+1,2,none⟩ (.int .i64 T.n)).heap[w.heap.size]? =some (.cells (ai T) 27 (0,0))):=ab ((dh W ⟨w.heap.size+1+1,2,none⟩ _ _ (by show w.heap.size≠w.heap.size+1+1;omega)).trans (aa HP))
 have HX:Hid ((W.setCell ⟨w.heap.size+1+1,2,none⟩ (.int .i64 T.n)).heap[w.heap.size+1]? =some (.cells aB 27 (0,0))):=ab ((dh W ⟨w.heap.size+1+1,2,none⟩ _ _ (by show w.heap.size+1≠w.heap.size+1+1;omega)).trans (aa HX))
 have HO:Hid ((W.setCell ⟨w.heap.size+1+1,2,none⟩ (.int .i64 T.n)).heap[w.heap.size+1+1]? =some (.cells #[.int .i64 T.k,.string ⟨#[]⟩,.int .i64 T.n,.string ⟨#[]⟩,.slice none 0 0] 27 (0,0))):=ab (fB W (w.heap.size+1+1) 2 _ _ _ (aa HO));have HB:Hid (Below w.heap.size w (W.setCell ⟨w.heap.size+1+1,2,none⟩ (.int .i64 T.n))):=ab (lz (aa HB) (by omega) _ _)
 have hb9:Below (W.setCell ⟨w.heap.size+1+1,2,none⟩ (.int .i64 T.n)).heap.size (W.setCell ⟨w.heap.size+1+1,2,none⟩ (.int .i64 T.n)) ((W.setCell ⟨w.heap.size+1+1,2,none⟩ (.int .i64 T.n)).alloc (.cells #[.int .i64 21,.int .i64 22,.int .i64 23,.int .i64 24] 3)):=ba _;refine(xO T.k _ _ (ax (by simp))).mono ?_
 rintro e W1 ⟨rfl,rfl⟩;have HP:=ab (an (aa HP) hb9);have HX:=ab (an (aa HX) hb9);have HO:=ab (an (aa HO) hb9);have HB:=ab (aq (aa HB) hb9);clear hb9;rw[aa HM];generalize (W.setCell ⟨w.heap.size+1+1,2,none⟩ (.int .i64 T.n)).alloc (.cells #[.int .i64 21,.int .i64 22,.int .i64 23,.int .i64 24] 3)=W at *;obtain⟨c0,c1,c2,c3,c4⟩:=ee (aa HP);obtain⟨o0,o1,o2,o3,o4⟩:=gS (aa HO);have of:=fun k=>cN W (w.heap.size+1+1) k _ _ (aa HO)
 go_wp2_with fail;clear c0 c1 c2 c3 c4 o0 o1 o2 o3 o4 of;have aF:Hid (Bre w T ⟨#[]⟩ T.n ⟨#[]⟩ W (.slice none 0 0) 0 []):=ab (⟨aa HP,aa HX,aa HO,aa HB,⟨lX _ _ _ _,rfl,fun x hx=>absurd hx eg⟩⟩)
 clear HP HX HO HB;go_loopw [36] (fun x wr=>∃(k:Nat) (v:Value) (L:List PT),k≤T.len∧x=.int .i64 (k:Int)∧Hid (Bre w T ⟨#[]⟩ T.n ⟨#[]⟩ wr v k L)) (fun x _=>T.len - (intOf x).toNat)
 case atStart=>exact⟨0,_,[],cU _,rfl,aa aF⟩
 case round=>
  obtain⟨k,v,L,hk,rfl,HK⟩:=hrel;clear aF;have fO:=aa ej;rcases cG k T.len with au | gD
  ·have g1:(k:Int) < (T.len:Int):=by omega
   have lo:=kid_at (aa HA) au;have bq:=(aa HA).cells au;unfold PT.kv at bq;have HC:=ab (fun W (hb:Below w.heap.size w W)=>aa IH k au W (PT.In.later hb ((aa HA).kids au)) (aa gR k au))
   have cd:=(fun (i:Nat) (x:Value) (h:w.cell? ⟨T.b,i,none⟩=some x)=>av (aa HK).bel h)
   have a0:=cd _ _ bq.1;have a1:=cd _ _ bq.2.1;have a2:=cd _ _ bq.2.2.1;have a3:=cd _ _ bq.2.2.2.1;have a4:=cd _ _ bq.2.2.2.2;clear cd bq;obtain⟨P,hP⟩:∃P,T.kid k=P:=⟨_,rfl⟩;rw[hP] at HC a0 a1 a2 a3 a4;have kh:=ab hP;clear hP;unfold pv at HC;have hb3:Below wr.heap.size wr (wr.alloc (.cells (ai P) 27)):=ba _;have hq:(wr.alloc (.cells (ai P) 27)).heap[wr.heap.size]? =some (.cells (ai P) 27 (0,0)):=ax rfl;have kj:=ab (an (aa HK).out hb3);have ao:=ab hb3;have dG:=ab hq;go_wp2_with fail;rw[show (#[.int .i64 P.k,.string P.t,.int .i64 P.n,.string P.nm,.slice P.xa P.len P.cap]:Array Value)=ai P from rfl];generalize (wr.alloc (.cells (ai P) 27))=w3 at *;obtain⟨q0,q1,q2,q3,q4⟩:=ee (aa dG);obtain⟨o0,o1,o2,o3,o4⟩:=gS (aa kj);clear hq hb3 a0 a1 a2 a3 a4 o0 o1 o2 o3;have dW:=ab (aa HK).lt;obtain⟨S0,aN⟩:∃S0:World→Prop,S0=fun w'=>w'.cell? ⟨w.heap.size+1+1,4,none⟩=some v∧w'.cell? ⟨wr.heap.size,0,none⟩=some (.int .i64 P.k)∧w'.cell? ⟨wr.heap.size,1,none⟩=some (.string P.t)∧w'.cell? ⟨wr.heap.size,2,none⟩=some (.int .i64 P.n)∧w'.cell? ⟨wr.heap.size,3,none⟩=some (.string P.nm)∧w'.cell? ⟨wr.heap.size,4,none⟩=some (.slice P.xa P.len P.cap):=⟨_,rfl⟩
   have ap:=ab aN;have hS:S0 w3.drew:=by rw[aN];exact⟨o4,q0,q1,q2,q3,q4⟩
   have aW:Hid (∀W,Below w3.heap.size w3 W→S0 W):=ab (fun W h=>by rw[aN];exact⟨av h o4,av h q0,av h q1,av h q2,av h q3,av h q4⟩)
   clear aN;refine gt 7 S0 ?_;intro F;refine aK F 0 ap hS ?_
   (try go_frame)
   refine aK F 1 ap hS ?_
   (try go_frame)
   refine aK F 2 ap hS ?_
   (try go_frame)
   refine ce 3 (fun K3 cC=> ?_)
   go_simp;have j4:Below w.heap.size w w3.drew:=(aq (aa HK).bel (aa ao)).drew;refine(aa HC _ j4).mono ?_;rintro e w4 ⟨⟨U,rfl,hU,hL⟩,hb4⟩;have hb4':Below w3.heap.size w3 w4:=aq (aV _ _).drew hb4;refine cC _ _ (aa aW _ hb4') ?_;refine ce 4 (fun K4 bw=> ?_)
   (try unfold pv)
   go_simp;have hb5:Below w4.heap.size w4 (w4.alloc (.cells (ai U) 27)):=ba _;refine bw _ _ (aa aW _ (aq hb4' hb5)) ?_;refine ce 5 (fun K5 dy=> ?_)
   have dn:bP (w4.alloc (.cells (ai U) 27)) (w.heap.size+1+1+1) 27 5 eH v L:=((aa HK).kids.row.later (aa ao)).later (aq hb4' hb5);have su:=(aa HK).len hk;refine qH underlying25 vT rfl (by decide) (by decide) iX nU rfl (.tmp 41) (.tmp 44) rfl dn (by rw[dS];have:=aa dW;have:=hb4'.size;have:=(aa ao).size;omega) U w4.heap.size 1 rfl rfl vS (by have:=aa ej;omega) ?_
   intro v' w6 aS bI dP;have dY:=ab ((aa HK).put au (aa ao) hb4' (by rw[hU,aa kh]) hL aS bI dP)
   have hfz:=cN w6 (w.heap.size+1+1) 4 _ _ (show w6.heap[w.heap.size+1+1]? =_ from oJ dn bI (an (an (aa HK).out (aa ao)) (aq hb4' hb5)) (by omega))
   have ge:=(gS (show w6.heap[w.heap.size+1+1]? =_ from oJ dn bI (an (an (aa HK).out (aa ao)) (aq hb4' hb5)) (by omega))).2.2.2.2
   have ec:Hid (S0 w6):=ab (by
    rw[aa ap];have dN:w6.heap[wr.heap.size]? =_:=(bI.block wr.heap.size (gL (bC.1 (aa dG)).1 (aq hb4' hb5).size) (fun e=>by have h1:=((aa HK).kids.row.low e.symm).2;omega)).trans (an (aa dG) (aq hb4' hb5))
    obtain⟨z0,z1,z2,z3,z4⟩:=ee dN;exact⟨ge,z0,z1,z2,z3,z4⟩)
   obtain⟨g6,cap6,dZ, -, -⟩:=aS.form (by simp)
   generalize (L++[U]).length=n6 at dZ;subst dZ;refine dy _ _ (aa ec) ?_;refine ce 6 (fun K6 gj=> ?_)
   go_simp;refine gj _ _ (aa ec) ?_;refine gy (by kernel_rfl) rfl (by kernel_rfl) (fun K7 gi=> ?_)
   clear aS bI dP dn hb5 hb4 hb4' hL hU hS q0 q1 q2 q3 q4 o4;go_simp;refine gi _ _ ?_
   (try simp only[aH,aJ,aG])
   (try go_frame)
   clear gi gj dy bw cC K7 K6 K5 K4 K3 F ap aW ge hfz;go_wp2_with fail;exact⟨⟨k+1,_,L++[U],by omega,rfl,aa dY⟩,by simp[intOf];omega⟩
  ·obtain rfl:k=T.len:=by omega
   have g1:¬(T.len:Int) < (T.len:Int):=by omega
   obtain⟨U,gh,d5,gg⟩:=(aa HK).fin (aa gO) (aa kq) (aa dd) (aa eF);obtain⟨o0,o1,o2,o3,o4⟩:=gS (aa HK).out;have HX:=ab (aa HK).box;have HU:=ab (And.intro gh (And.intro d5 gg));have ay:=(aa HK).lt;clear gh d5 gg;go_wp2_with (first
    | (refine bh rfl 27 _ _ rfl (w.heap.size+1) #[.int .i64 T.k,.string ⟨#[]⟩,.int .i64 T.n,.string ⟨#[]⟩,v] rfl rfl 27 aB (aa HX) dE rfl (by rw[←(aa HU).1];exact gZ U) ?_)
    | fail)
   (try simp only[Exit.inBlock,Exit.then])
   refine bK (dM rfl _ _ (w.heap.size+1) 27 #[.int .i64 T.k,.string ⟨#[]⟩,.int .i64 T.n,.string ⟨#[]⟩,v] (0,0) _ rfl (bW _ _ _ _ _ _ (aa HX)) underlying27 rfl dE) rfl ?_;exact⟨⟨U,by have h:=(aa HU).1;unfold ai at h;rw[h],(aa HU).2.1,((aa HU).2.2.setRow (by omega) _).mono (by omega)⟩,ed (aa HK).bel _ (by omega) _⟩
open Go.RowKit
theorem Kb {T:PT} (ih:∀i,i < T.len→qK (T.kid i)) (hc:21≤T.k∧T.k≤24):qK T:=by
 intro w hT aA;have HA:=ab hT;have gO:=ab aA;have gR:=ab (fG aA).2;have IH:=ab ih;have ej:Hid (T.len≤4096):=ab (by
  obtain⟨-, -, -, -, -, -,jz⟩:=jo (fG aA).1;unfold cM at jz;split at jz
  ·omega
  ·split at jz <;> omega)
 have kq:Hid (⟨#[]⟩=if aO T.k=1 then T.t else ⟨#[]⟩):=ab (by rw[ac (by intro q;unfold aO at q;split at q <;> (try split at q) <;> (try split at q) <;> omega)])
 have dd:Hid (0=if aO T.k=2 then T.n else 0):=ab (by rw[ac (by intro q;unfold aO at q;split at q <;> (try split at q) <;> (try split at q) <;> omega)])
 have eF:Hid (T.nm=if aO T.k=3 then T.nm else ⟨#[]⟩):=ab (by rw[af (by unfold aO;rw[ac (by omega),ac (by omega),af (by omega)])])
 have e1:(T.k==1)=false:=bn;have HT:Hid (pO T.k=false):=ab (by unfold pO;exact db (by simp;omega))
 have HN:Hid (pQ T.k=false):=ab (by unfold pQ;exact db (by simp;omega))
 have HM:Hid (qO T.k=true):=ab (by unfold qO;exact fk (by simp;omega))
 obtain⟨W,hW⟩:∃W,W=((w.alloc (.cells (ai T) 27)).alloc (.cells aB 27)).alloc (.cells #[.int .i64 T.k,.string ⟨#[]⟩,.int .i64 0,.string ⟨#[]⟩,.slice none 0 0] 27):=⟨_,rfl⟩;have HB:Hid (Below w.heap.size w W):=ab (by rw[hW];exact((ba _).alloc (by simp) _).alloc (by simp;omega) _)
 have HO:Hid (W.heap[w.heap.size+1+1]? =some (.cells #[.int .i64 T.k,.string ⟨#[]⟩,.int .i64 0,.string ⟨#[]⟩,.slice none 0 0] 27 (0,0))):=ab (by rw[hW];exact ax (by simp))
 have HX:Hid (W.heap[w.heap.size+1]? =some (.cells aB 27 (0,0))):=ab (by rw[hW];exact ci (by simp) (ax (by simp)))
 have HP:Hid (W.heap[w.heap.size]? =some (.cells (ai T) 27 (0,0))):=ab (by rw[hW];exact ci (by simp;omega) (ci (by simp) (ax rfl)))
 have HW:=ab hW;have sn:¬w.heap.size=w.heap.size+1+1:=by omega
 have sj:¬w.heap.size+1+1=w.heap.size:=by omega
 clear hT aA ih hW hc;unfold pv;go_enter func29,ntmps29;go_wp2_with fail;rw[show ((w.alloc (.cells #[.int .i64 T.k,.string T.t,.int .i64 T.n,.string T.nm,.slice T.xa T.len T.cap] 27)).alloc (.cells #[.int .i64 0,.string ⟨#[]⟩,.int .i64 0,.string ⟨#[]⟩,.slice none 0 0] 27)).alloc (.cells #[.int .i64 T.k,.string ⟨#[]⟩,.int .i64 0,.string ⟨#[]⟩,.slice none 0 0] 27)=W from (aa HW).symm];clear HW;refine(zm T.k _).mono ?_;rintro e W1 ⟨rfl,hb⟩;have HP:=ab (an (aa HP) hb);have HX:=ab (an (aa HX) hb);have HO:=ab (an (aa HO) hb);have HB:=ab (aq (aa HB) hb);clear hb;rw[aa HT];generalize W1=W at *;obtain⟨c0,c1,c2,c3,c4⟩:=ee (aa HP);obtain⟨o0,o1,o2,o3,o4⟩:=gS (aa HO);have of:=fun k=>cN W (w.heap.size+1+1) k _ _ (aa HO)
 go_wp2_with fail;clear c0 c1 c2 c3 c4 o0 o1 o2 o3 o4 of;refine(xI T.k _).mono ?_;rintro e W1 ⟨rfl,hb⟩;have HP:=ab (an (aa HP) hb);have HX:=ab (an (aa HX) hb);have HO:=ab (an (aa HO) hb);have HB:=ab (aq (aa HB) hb);clear hb;rw[aa HN];generalize W1=W at *;obtain⟨c0,c1,c2,c3,c4⟩:=ee (aa HP);obtain⟨o0,o1,o2,o3,o4⟩:=gS (aa HO);have of:=fun k=>cN W (w.heap.size+1+1) k _ _ (aa HO)
 go_wp2_with fail;clear c0 c1 c2 c3 c4 o0 o1 o2 o3 o4 of;have hb9:Below W.heap.size W (W.alloc (.cells #[.int .i64 21,.int .i64 22,.int .i64 23,.int .i64 24] 3)):=ba _;refine(xO T.k _ _ (ax (by simp))).mono ?_
 rintro e W1 ⟨rfl,rfl⟩;have HP:=ab (an (aa HP) hb9);have HX:=ab (an (aa HX) hb9);have HO:=ab (an (aa HO) hb9);have HB:=ab (aq (aa HB) hb9);clear hb9;rw[aa HM];generalize W.alloc (.cells #[.int .i64 21,.int .i64 22,.int .i64 23,.int .i64 24] 3)=W at *;obtain⟨c0,c1,c2,c3,c4⟩:=ee (aa HP);obtain⟨o0,o1,o2,o3,o4⟩:=gS (aa HO);have of:=fun k=>cN W (w.heap.size+1+1) k _ _ (aa HO)
 go_wp2_with fail;clear c0 c1 c2 c3 c4 o0 o1 o2 o3 o4 of;have HP:Hid ((W.setCell ⟨w.heap.size+1+1,3,none⟩ (.string T.nm)).heap[w.heap.size]? =some (.cells (ai T) 27 (0,0))):=ab ((dh W ⟨w.heap.size+1+1,3,none⟩ _ _ (by show w.heap.size≠w.heap.size+1+1;omega)).trans (aa HP))
 have HX:Hid ((W.setCell ⟨w.heap.size+1+1,3,none⟩ (.string T.nm)).heap[w.heap.size+1]? =some (.cells aB 27 (0,0))):=ab ((dh W ⟨w.heap.size+1+1,3,none⟩ _ _ (by show w.heap.size+1≠w.heap.size+1+1;omega)).trans (aa HX))
 have HO:Hid ((W.setCell ⟨w.heap.size+1+1,3,none⟩ (.string T.nm)).heap[w.heap.size+1+1]? =some (.cells #[.int .i64 T.k,.string ⟨#[]⟩,.int .i64 0,.string T.nm,.slice none 0 0] 27 (0,0))):=ab (fB W (w.heap.size+1+1) 3 _ _ _ (aa HO));have HB:Hid (Below w.heap.size w (W.setCell ⟨w.heap.size+1+1,3,none⟩ (.string T.nm))):=ab (lz (aa HB) (by omega) _ _)
 generalize W.setCell ⟨w.heap.size+1+1,3,none⟩ (.string T.nm)=W at *;have aF:Hid (Bre w T ⟨#[]⟩ 0 T.nm W (.slice none 0 0) 0 []):=ab (⟨aa HP,aa HX,aa HO,aa HB,⟨lX _ _ _ _,rfl,fun x hx=>absurd hx eg⟩⟩)
 clear HP HX HO HB;go_loopw [36] (fun x wr=>∃(k:Nat) (v:Value) (L:List PT),k≤T.len∧x=.int .i64 (k:Int)∧Hid (Bre w T ⟨#[]⟩ 0 T.nm wr v k L)) (fun x _=>T.len - (intOf x).toNat)
 case atStart=>exact⟨0,_,[],cU _,rfl,aa aF⟩
 case round=>
  obtain⟨k,v,L,hk,rfl,HK⟩:=hrel;clear aF;have fO:=aa ej;rcases cG k T.len with au | gD
  ·have g1:(k:Int) < (T.len:Int):=by omega
   have lo:=kid_at (aa HA) au;have bq:=(aa HA).cells au;unfold PT.kv at bq;have HC:=ab (fun W (hb:Below w.heap.size w W)=>aa IH k au W (PT.In.later hb ((aa HA).kids au)) (aa gR k au))
   have cd:=(fun (i:Nat) (x:Value) (h:w.cell? ⟨T.b,i,none⟩=some x)=>av (aa HK).bel h)
   have a0:=cd _ _ bq.1;have a1:=cd _ _ bq.2.1;have a2:=cd _ _ bq.2.2.1;have a3:=cd _ _ bq.2.2.2.1;have a4:=cd _ _ bq.2.2.2.2;clear cd bq;obtain⟨P,hP⟩:∃P,T.kid k=P:=⟨_,rfl⟩;rw[hP] at HC a0 a1 a2 a3 a4;have kh:=ab hP;clear hP;unfold pv at HC;have hb3:Below wr.heap.size wr (wr.alloc (.cells (ai P) 27)):=ba _;have hq:(wr.alloc (.cells (ai P) 27)).heap[wr.heap.size]? =some (.cells (ai P) 27 (0,0)):=ax rfl;have kj:=ab (an (aa HK).out hb3);have ao:=ab hb3;have dG:=ab hq;go_wp2_with fail;rw[show (#[.int .i64 P.k,.string P.t,.int .i64 P.n,.string P.nm,.slice P.xa P.len P.cap]:Array Value)=ai P from rfl];generalize (wr.alloc (.cells (ai P) 27))=w3 at *;obtain⟨q0,q1,q2,q3,q4⟩:=ee (aa dG);obtain⟨o0,o1,o2,o3,o4⟩:=gS (aa kj);clear hq hb3 a0 a1 a2 a3 a4 o0 o1 o2 o3;have dW:=ab (aa HK).lt;obtain⟨S0,aN⟩:∃S0:World→Prop,S0=fun w'=>w'.cell? ⟨w.heap.size+1+1,4,none⟩=some v∧w'.cell? ⟨wr.heap.size,0,none⟩=some (.int .i64 P.k)∧w'.cell? ⟨wr.heap.size,1,none⟩=some (.string P.t)∧w'.cell? ⟨wr.heap.size,2,none⟩=some (.int .i64 P.n)∧w'.cell? ⟨wr.heap.size,3,none⟩=some (.string P.nm)∧w'.cell? ⟨wr.heap.size,4,none⟩=some (.slice P.xa P.len P.cap):=⟨_,rfl⟩
   have ap:=ab aN;have hS:S0 w3.drew:=by rw[aN];exact⟨o4,q0,q1,q2,q3,q4⟩
   have aW:Hid (∀W,Below w3.heap.size w3 W→S0 W):=ab (fun W h=>by rw[aN];exact⟨av h o4,av h q0,av h q1,av h q2,av h q3,av h q4⟩)
   clear aN;refine gt 7 S0 ?_;intro F;refine aK F 0 ap hS ?_
   (try go_frame)
   refine aK F 1 ap hS ?_
   (try go_frame)
   refine aK F 2 ap hS ?_
   (try go_frame)
   refine ce 3 (fun K3 cC=> ?_)
   go_simp;have j4:Below w.heap.size w w3.drew:=(aq (aa HK).bel (aa ao)).drew;refine(aa HC _ j4).mono ?_;rintro e w4 ⟨⟨U,rfl,hU,hL⟩,hb4⟩;have hb4':Below w3.heap.size w3 w4:=aq (aV _ _).drew hb4;refine cC _ _ (aa aW _ hb4') ?_;refine ce 4 (fun K4 bw=> ?_)
   (try unfold pv)
   go_simp;have hb5:Below w4.heap.size w4 (w4.alloc (.cells (ai U) 27)):=ba _;refine bw _ _ (aa aW _ (aq hb4' hb5)) ?_;refine ce 5 (fun K5 dy=> ?_)
   have dn:bP (w4.alloc (.cells (ai U) 27)) (w.heap.size+1+1+1) 27 5 eH v L:=((aa HK).kids.row.later (aa ao)).later (aq hb4' hb5);have su:=(aa HK).len hk;refine qH underlying25 vT rfl (by decide) (by decide) iX nU rfl (.tmp 41) (.tmp 44) rfl dn (by rw[dS];have:=aa dW;have:=hb4'.size;have:=(aa ao).size;omega) U w4.heap.size 1 rfl rfl vS (by have:=aa ej;omega) ?_
   intro v' w6 aS bI dP;have dY:=ab ((aa HK).put au (aa ao) hb4' (by rw[hU,aa kh]) hL aS bI dP)
   have hfz:=cN w6 (w.heap.size+1+1) 4 _ _ (show w6.heap[w.heap.size+1+1]? =_ from oJ dn bI (an (an (aa HK).out (aa ao)) (aq hb4' hb5)) (by omega))
   have ge:=(gS (show w6.heap[w.heap.size+1+1]? =_ from oJ dn bI (an (an (aa HK).out (aa ao)) (aq hb4' hb5)) (by omega))).2.2.2.2
   have ec:Hid (S0 w6):=ab (by
    rw[aa ap];have dN:w6.heap[wr.heap.size]? =_:=(bI.block wr.heap.size (gL (bC.1 (aa dG)).1 (aq hb4' hb5).size) (fun e=>by have h1:=((aa HK).kids.row.low e.symm).2;omega)).trans (an (aa dG) (aq hb4' hb5))
    obtain⟨z0,z1,z2,z3,z4⟩:=ee dN;exact⟨ge,z0,z1,z2,z3,z4⟩)
   obtain⟨g6,cap6,dZ, -, -⟩:=aS.form (by simp)
   generalize (L++[U]).length=n6 at dZ;subst dZ;refine dy _ _ (aa ec) ?_;refine ce 6 (fun K6 gj=> ?_)
   go_simp;refine gj _ _ (aa ec) ?_;refine gy (by kernel_rfl) rfl (by kernel_rfl) (fun K7 gi=> ?_)
   clear aS bI dP dn hb5 hb4 hb4' hL hU hS q0 q1 q2 q3 q4 o4;go_simp;refine gi _ _ ?_
   (try simp only[aH,aJ,aG])
   (try go_frame)
   clear gi gj dy bw cC K7 K6 K5 K4 K3 F ap aW ge hfz;go_wp2_with fail;exact⟨⟨k+1,_,L++[U],by omega,rfl,aa dY⟩,by simp[intOf];omega⟩
  ·obtain rfl:k=T.len:=by omega
   have g1:¬(T.len:Int) < (T.len:Int):=by omega
   obtain⟨U,gh,d5,gg⟩:=(aa HK).fin (aa gO) (aa kq) (aa dd) (aa eF);obtain⟨o0,o1,o2,o3,o4⟩:=gS (aa HK).out;have HX:=ab (aa HK).box;have HU:=ab (And.intro gh (And.intro d5 gg));have ay:=(aa HK).lt;clear gh d5 gg;go_wp2_with (first
    | (refine bh rfl 27 _ _ rfl (w.heap.size+1) #[.int .i64 T.k,.string ⟨#[]⟩,.int .i64 0,.string T.nm,v] rfl rfl 27 aB (aa HX) dE rfl (by rw[←(aa HU).1];exact gZ U) ?_)
    | fail)
   (try simp only[Exit.inBlock,Exit.then])
   refine bK (dM rfl _ _ (w.heap.size+1) 27 #[.int .i64 T.k,.string ⟨#[]⟩,.int .i64 0,.string T.nm,v] (0,0) _ rfl (bW _ _ _ _ _ _ (aa HX)) underlying27 rfl dE) rfl ?_;exact⟨⟨U,by have h:=(aa HU).1;unfold ai at h;rw[h],(aa HU).2.1,((aa HU).2.2.setRow (by omega) _).mono (by omega)⟩,ed (aa HK).bel _ (by omega) _⟩
open Go.RowKit
theorem Hp:∀T:PT,qK T:=PT.ind fun T ih=>by
 intro w hT aA;obtain⟨k1,k24, -⟩:=jo (fG aA).1;rcases (show T.k=1∨(3≤T.k∧T.k≤7)∨(T.k=2∨(8≤T.k∧T.k≤11))∨(12≤T.k∧T.k≤20)∨(21≤T.k∧T.k≤24) by omega) with h | h | h | h | h
 ·exact LP ih h w hT aA
 ·exact J9 ih h w hT aA
 ·exact LO ih h w hT aA
 ·exact Ka ih h w hT aA
 ·exact Kb ih h w hT aA
end Go.Proofs.YtlmnjbipfacniaaGreatDoor
