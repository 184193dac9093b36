/- The document's SameAll of programs that differ in where they -/
import Derived.Test.YtlmnjbipfacniaaGreatDoorRtSameMs
import Derived.Test.YtlmnjbipfacniaaGreatDoorSySameMs
import Derived.Test.YtlmnjbipfacniaaGreatDoorRegionSinkMs
set_option maxRecDepth 100000
set_option maxHeartbeats 4000000
namespace Go.Proofs.YtlmnjbipfacniaaGreatDoor
open Go.Proofs.Tryz
open Go.RowKit
section
variable {P:Program} {ops:Array Oper} {Q:Exit→Act→World→Prop} {S:World→Prop} {n:Nat}
theorem pP {f:Nat} {listed:Array Bool} {a:Act} {w:World} (F:Sink ops n) (i:Nat) {oi:Oper} {v:Value} (hS:S w)
  (h:kF ops n (listed.setIfInBounds i true)→iL P ops Q S n f (listed.setIfInBounds i true) (a.put oi.dst v) w)
  (hi:ops[i]? =some oi:=by rfl) (hf:Region.free .any ops listed i=true:=by kernel_rfl) (hr:(Region.ready .any ops listed).contains i=true:=by kernel_rfl) (mN:decide (i < n)=true:=by rfl)
  (hw:Region.wanted oi (yielded ops a.tmps)=true:=by rfl)
  (hy:∀w,S w→(execOp a.eval oi).run P w=.ok (.value v) w:=by intro w hSw;(go_simp <;> (try with_reducible rfl)))
  (hQ:∀c a w,Q (.panic c) (a.put oi.dst v) w→Q (.panic c) a w:=by exact fun _ _ _ h=>h):kF ops n listed→iL P ops Q S n (f+1) listed a w:=
 Cf F hi hf hr mN hQ hS (Or.inl ⟨hw,hy⟩) h
theorem Ag {ops:Array Oper} {Q:Exit→Act→World→Prop} {S:World→Prop} {n f:Nat} {listed:Array Bool} {a:Act} {w:World} (F:Sink ops n) (i:Nat) (hS:S w) (g k:Nat) (L:List Value) (hC:L.length=24) (hSr:∀w,S w→w.rangeAt g k L) {oi:Oper} {x:Operand}
  (h:kF ops n (listed.setIfInBounds i true)→iL prog ops Q S n f (listed.setIfInBounds i true) (a.put oi.dst (.agg L.toArray)) w)
  (hi:ops[i]? =some oi:=by rfl) (hf:Region.free .any ops listed i=true:=by kernel_rfl) (hr:(Region.ready .any ops listed).contains i=true:=by kernel_rfl) (mN:decide (i < n)=true:=by rfl)
  (hw:Region.wanted oi (yielded ops a.tmps)=true:=by rfl) (ho:oi.op=.load 30 x:=by rfl) (hx:a.eval x=.pointer (some ⟨g,k,none⟩):=by rfl)
  (hQ:∀c a w,Q (.panic c) (a.put oi.dst (.agg L.toArray)) w→Q (.panic c) a w:=by exact fun _ _ _ h=>h):kF ops n listed→iL prog ops Q S n (f+1) listed a w:=
 Cf F hi hf hr mN hQ hS (yieldsIf_load_mid hw _ x ho g k hx L _ hSr underlying30 rfl (de.trans (by rw[hC]))) h
end
theorem Hl (V U:PV) (P Q:List SV) (w:World) (hV:PIn w V P) (hU:PIn w U Q) (h:P.map SV.can=Q.map SV.can):Calls prog 14 #[V.v P.length,U.v Q.length] w fun e w'=>e=.returned (.bool true)∧Below w.heap.size w w':=by
 have bU:Q.length=P.length:=by rw[←oT (f:=SV.can),←h,oT]
 have HV:=ab hV;have HU:=ab hU;have HC:=ab h;have HL:=ab bU;have hmx:=hV.max;have iT:=hV.cap;unfold maxLen at hmx;clear hV hU h;unfold PV.v;rw[bU];clear bU;go_enter func14,ntmps14;go_wp2_with fail;go_loopw [13] (fun x wr=>∃k:Nat,k≤P.length∧x=.int .i64 (k:Int)∧Hid (Below w.heap.size w wr)) (fun x _=>P.length - (intOf x).toNat)
 case atStart=>exact⟨0,cU _,rfl,aV _ _⟩
 case round=>
  obtain⟨k,hk,rfl,HB⟩:=hrel;rcases cG k P.length with au | gD
  ·have g1:(k:Int) < (P.length:Int):=by omega
   have hlq:k < Q.length:=by rw[aa HL];exact au
   obtain⟨A,hA⟩:∃A,P[k]? =some A:=⟨P[k],gT _⟩;obtain⟨B,hB⟩:∃B,Q[k]? =some B:=⟨Q[k],gT _⟩;have fO:A.can=B.can:=by
    have e:=aD (fun l=>l[k]?) (aa HC)
    simp only[qb,hA,hB,Option.map_some,uK] at e;exact e
   have iR:=(aa HV).later (aa HB);have tH:=(aa HU).later (aa HB);have sF:=ab (fun W (q:Below wr.heap.size wr W)=>Dp A B W ((iR.later q).row k A hA).2 ((tH.later q).row k B hB).2 fO)
   unfold SV.v at sF;have vm:=iR.at_ (by omega)
   have hau:=tH.at_ (by omega)
   have yR:=yw (g:=V.gb) (o:=V.ob) (cap:=V.cap) (n:=P.length) (i:=k) au;have yS:=yw (g:=U.gb) (o:=U.ob) (cap:=U.cap) (n:=P.length) (i:=k) au;rw[←vm] at yR;rw[←hau] at yS;have mf:=(iR.row k A hA).1;have hRB:=(tH.row k B hB).1;have pg:A.cells.toList.length=24:=xe A;have hdb:B.cells.toList.length=24:=xe B;obtain⟨LA,hLA⟩:∃L,L=A.cells.toList:=⟨_,rfl⟩;obtain⟨LB,hLB⟩:∃L,L=B.cells.toList:=⟨_,rfl⟩;rw[show A.cells=LA.toArray by rw[hLA],show B.cells=LB.toArray by rw[hLB]] at sF
   rw[←hLA] at mf pg;rw[←hLB] at hRB hdb;have oC:=ab (fun W (q:Below wr.heap.size wr W)=>(fun j v hj=>av q (mf j v hj):W.rangeAt V.gb (V.ob+k * 24) LA))
   have HRB:=ab (fun W (q:Below wr.heap.size wr W)=>(fun j v hj=>av q (hRB j v hj):W.rangeAt U.gb (U.ob+k * 24) LB))
   clear hA hB fO iR tH vm hau mf hRB hLA hLB;go_wp2_with fail;have hS:Below wr.heap.size wr wr.drew:=(aV _ _).drew;refine gt 9 (fun W=>Below wr.heap.size wr W) ?_
   intro F;refine pP F 0 hS ?_
   (try simp only[aH,aG])
   (try go_frame)
   refine pP F 1 hS ?_
   (try simp only[aH,aJ,aG])
   (try go_frame)
   refine pP F 2 hS ?_
   (try simp only[aH,aJ,aG])
   (try go_frame)
   refine Ag F 3 hS V.gb (V.ob+k * 24) LA pg (fun W q=>aa oC W q) ?_
   (try simp only[aH,aJ,aG])
   (try go_frame)
   refine pP F 4 hS ?_
   (try simp only[aH,aJ,aG])
   (try go_frame)
   refine pP F 5 hS ?_
   (try simp only[aH,aJ,aG])
   (try go_frame)
   refine pP F 6 hS ?_
   (try simp only[aH,aJ,aG])
   (try go_frame)
   refine Ag F 7 hS U.gb (U.ob+k * 24) LB hdb (fun W q=>aa HRB W q) ?_
   (try simp only[aH,aJ,aG])
   (try go_frame)
   refine ce 8 (fun K3 cC=> ?_)
   go_simp;refine(aa sF _ hS).mono ?_;rintro e w4 ⟨rfl,hb4⟩;have hS4:=aq hS hb4;refine cC _ _ hS4 ?_;refine gy (by kernel_rfl) rfl (by kernel_rfl) (fun K4 bw=> ?_)
   go_simp;refine bw _ _ ?_
   (try simp only[aH,aJ,aG])
   (try go_frame)
   have HZ:=ab (aq (aa HB) hS4);clear bw cC F hS hb4 hS4 yR yS;go_wp2_with fail;exact⟨⟨k+1,by omega,by go_num,aa HZ⟩,by simp[intOf];omega⟩
  ·obtain rfl:k=P.length:=by omega
   go_wp2_with fail;go_ret;exact⟨rfl,aa HB⟩
open Go.RowKit
theorem LM {T:PT} (ih:∀i,i < T.len→oM (T.kid i)) (hc:T.k=5∨7≤T.k):oM T:=by
 intro w hT aA;have HA:=ab hT;have gO:=ab aA;have gR:=ab (iK aA).2;have IH:=ab ih;have ej:Hid (T.len≤4096):=ab (by have:=wU T.k;have:=(oK (iK aA).1).2.2.2.2.2;omega)
 have kq:Hid (⟨#[]⟩=if T.k=1 then T.t else ByteArray.empty):=ab (by rw[ac (by omega)];rfl)
 have dd:Hid (0=if T.k=2 then T.n else 0):=ab (by rw[ac (by omega)])
 have eF:Hid (⟨#[]⟩=if ck T.k=true then T.nm else ByteArray.empty):=ab (by rw[ac (by unfold ck;simp;omega)];rfl)
 have e1:(T.k==1)=false:=bn;have e2:(T.k==2)=false:=bn;have e3:(T.k==3)=false:=bn;have e4:(T.k==4)=false:=bn;have e6:(T.k==6)=false:=bn;obtain⟨W,hW⟩:∃W,W=((w.alloc (.cells (ai T) 24)).alloc (.cells aB 24)).alloc (.cells #[.int .i64 T.k,.string ⟨#[]⟩,.int .i64 0,.string ⟨#[]⟩,.slice none 0 0] 24):=⟨_,rfl⟩;have HB:Hid (Below w.heap.size w W):=ab (by rw[hW];exact((ba _).alloc (by simp) _).alloc (by simp;omega) _)
 have HO:Hid (W.heap[w.heap.size+1+1]? =some (.cells #[.int .i64 T.k,.string ⟨#[]⟩,.int .i64 0,.string ⟨#[]⟩,.slice none 0 0] 24 (0,0))):=ab (by rw[hW];exact ax (by simp))
 have HX:Hid (W.heap[w.heap.size+1]? =some (.cells aB 24 (0,0))):=ab (by rw[hW];exact ci (by simp) (ax (by simp)))
 have HP:Hid (W.heap[w.heap.size]? =some (.cells (ai T) 24 (0,0))):=ab (by rw[hW];exact ci (by simp;omega) (ci (by simp) (ax rfl)))
 have HW:=ab hW;have sn:¬w.heap.size=w.heap.size+1+1:=by omega
 have sj:¬w.heap.size+1+1=w.heap.size:=by omega
 clear hT aA ih hW hc;unfold pv;go_enter func28,ntmps28;go_wp2_with fail;rw[show ((w.alloc (.cells #[.int .i64 T.k,.string T.t,.int .i64 T.n,.string T.nm,.slice T.xa T.len T.cap] 24)).alloc (.cells #[.int .i64 0,.string ⟨#[]⟩,.int .i64 0,.string ⟨#[]⟩,.slice none 0 0] 24)).alloc (.cells #[.int .i64 T.k,.string ⟨#[]⟩,.int .i64 0,.string ⟨#[]⟩,.slice none 0 0] 24)=W from (aa HW).symm];clear HW;have aF:Hid (XBre w T ⟨#[]⟩ 0 ⟨#[]⟩ W (.slice none 0 0) 0 []):=ab (⟨aa HP,aa HX,aa HO,aa HB,KidsX.nil⟩);clear HP HX HO HB;go_loopw [31] (fun x wr=>∃(k:Nat) (v:Value) (L:List PT),k≤T.len∧x=.int .i64 (k:Int)∧Hid (XBre w T ⟨#[]⟩ 0 ⟨#[]⟩ wr v k L)) (fun x _=>T.len - (intOf x).toNat)
 case atStart=>exact⟨0,_,[],cU _,rfl,aa aF⟩
 case round=>
  obtain⟨k,v,L,hk,rfl,HK⟩:=hrel;clear aF;have fO:=aa ej;rcases cG k T.len with au | gD
  ·have g1:(k:Int) < (T.len:Int):=by omega
   have lo:=ms (aa HA) au;have bq:=(aa HA).cells au;unfold PT.kv at bq;have HC:=ab (fun W (hb:Below w.heap.size w W)=>aa IH k au W (PT.In.later hb ((aa HA).kids au)) (aa gR k au))
   have cd:=(fun (i:Nat) (x:Value) (h:w.cell? ⟨T.b,i,none⟩=some x)=>av (aa HK).bel h)
   have a0:=cd _ _ bq.1;have a1:=cd _ _ bq.2.1;have a2:=cd _ _ bq.2.2.1;have a3:=cd _ _ bq.2.2.2.1;have a4:=cd _ _ bq.2.2.2.2;clear cd bq;obtain⟨P,hP⟩:∃P,T.kid k=P:=⟨_,rfl⟩;rw[hP] at HC a0 a1 a2 a3 a4;have kh:=ab hP;clear hP;unfold pv at HC;have hb3:Below wr.heap.size wr (wr.alloc (.cells (ai P) 24)):=ba _;have hq:(wr.alloc (.cells (ai P) 24)).heap[wr.heap.size]? =some (.cells (ai P) 24 (0,0)):=ax rfl;have kj:=ab (an (aa HK).out hb3);have ao:=ab hb3;have dG:=ab hq;go_wp2_with fail;rw[show (#[.int .i64 P.k,.string P.t,.int .i64 P.n,.string P.nm,.slice P.xa P.len P.cap]:Array Value)=ai P from rfl];generalize (wr.alloc (.cells (ai P) 24))=w3 at *;obtain⟨q0,q1,q2,q3,q4⟩:=du (aa dG);obtain⟨o0,o1,o2,o3,o4⟩:=du (aa kj);clear hq hb3 a0 a1 a2 a3 a4 o0 o1 o2 o3;have dW:=ab (aa HK).lt;obtain⟨S0,aN⟩:∃S0:World→Prop,S0=fun w'=>w'.cell? ⟨w.heap.size+1+1,4,none⟩=some v∧w'.cell? ⟨wr.heap.size,0,none⟩=some (.int .i64 P.k)∧w'.cell? ⟨wr.heap.size,1,none⟩=some (.string P.t)∧w'.cell? ⟨wr.heap.size,2,none⟩=some (.int .i64 P.n)∧w'.cell? ⟨wr.heap.size,3,none⟩=some (.string P.nm)∧w'.cell? ⟨wr.heap.size,4,none⟩=some (.slice P.xa P.len P.cap):=⟨_,rfl⟩
   have ap:=ab aN;have hS:S0 w3.drew:=by rw[aN];exact⟨o4,q0,q1,q2,q3,q4⟩
   have aW:Hid (∀W,Below w3.heap.size w3 W→S0 W):=ab (fun W h=>by rw[aN];exact⟨av h o4,av h q0,av h q1,av h q2,av h q3,av h q4⟩)
   clear aN;refine gt 7 S0 ?_;intro F;refine aK F 0 ap hS ?_
   (try go_frame)
   refine aK F 1 ap hS ?_
   (try go_frame)
   refine aK F 2 ap hS ?_
   (try go_frame)
   refine ce 3 (fun K3 cC=> ?_)
   go_simp;have j4:Below w.heap.size w w3.drew:=(aq (aa HK).bel (aa ao)).drew;refine(aa HC _ j4).mono ?_;rintro e w4 ⟨⟨U,rfl,hU,hL⟩,hb4⟩;have hb4':Below w3.heap.size w3 w4:=aq (aV _ _).drew hb4;refine cC _ _ (aa aW _ hb4') ?_;refine ce 4 (fun K4 bw=> ?_)
   (try unfold pv)
   go_simp;have hb5:Below w4.heap.size w4 (w4.alloc (.cells (ai U) 24)):=ba _;refine bw _ _ (aa aW _ (aq hb4' hb5)) ?_;refine ce 5 (fun K5 dy=> ?_)
   have dn:bP (w4.alloc (.cells (ai U) 24)) (w.heap.size+1+1+1) 24 5 eH v L:=((aa HK).kids.row.later (aa ao)).later (aq hb4' hb5);have su:=(aa HK).len hk;refine qH underlying22 we rfl (by decide) (by decide) iX nU rfl (.tmp 36) (.tmp 39) rfl dn (by rw[dS];have:=aa dW;have:=hb4'.size;have:=(aa ao).size;omega) U w4.heap.size 1 rfl rfl vQ (by have:=aa ej;omega) ?_
   intro v' w6 aS bI dP;have dY:=ab ((aa HK).put au (aa ao) hb4' (by rw[hU,aa kh]) hL aS bI dP)
   have hfz:=cN w6 (w.heap.size+1+1) 4 _ _ (show w6.heap[w.heap.size+1+1]? =_ from oI dn bI (an (an (aa HK).out (aa ao)) (aq hb4' hb5)) (by omega))
   have ge:=(du (show w6.heap[w.heap.size+1+1]? =_ from oI dn bI (an (an (aa HK).out (aa ao)) (aq hb4' hb5)) (by omega))).2.2.2.2
   have ec:Hid (S0 w6):=ab (by
    rw[aa ap];have dN:w6.heap[wr.heap.size]? =_:=(bI.block wr.heap.size (gL (bC.1 (aa dG)).1 (aq hb4' hb5).size) (fun e=>by have h1:=((aa HK).kids.row.low e.symm).2;omega)).trans (an (aa dG) (aq hb4' hb5))
    obtain⟨z0,z1,z2,z3,z4⟩:=du dN;exact⟨ge,z0,z1,z2,z3,z4⟩)
   obtain⟨g6,cap6,dZ, -, -⟩:=aS.form (by simp)
   generalize (L++[U]).length=n6 at dZ;subst dZ;refine dy _ _ (aa ec) ?_;refine ce 6 (fun K6 gj=> ?_)
   go_simp;refine gj _ _ (aa ec) ?_;refine gy (by kernel_rfl) rfl (by kernel_rfl) (fun K7 gi=> ?_)
   clear aS bI dP dn hb5 hb4 hb4' hL hU hS q0 q1 q2 q3 q4 o4;go_simp;refine gi _ _ ?_
   (try simp only[aH,aJ,aG])
   (try go_frame)
   clear gi gj dy bw cC K7 K6 K5 K4 K3 F ap aW ge hfz;go_wp2_with fail;exact⟨⟨k+1,_,L++[U],by omega,rfl,aa dY⟩,by simp[intOf];omega⟩
  ·obtain rfl:k=T.len:=by omega
   have g1:¬(T.len:Int) < (T.len:Int):=by omega
   obtain⟨U,gh,d5,gg⟩:=(aa HK).fin (aa HA) (aa gO) (aa kq) (aa dd) (aa eF);obtain⟨o0,o1,o2,o3,o4⟩:=du (aa HK).out;have HX:=ab (aa HK).box;have HU:=ab (And.intro gh (And.intro d5 gg));have ay:=(aa HK).lt;clear gh d5 gg;go_wp2_with (first
    | (refine bh rfl 24 _ _ rfl (w.heap.size+1) #[.int .i64 T.k,.string ⟨#[]⟩,.int .i64 0,.string ⟨#[]⟩,v] rfl rfl 24 aB (aa HX) eM rfl (by rw[←(aa HU).1];exact gZ U) ?_)
    | fail)
   (try simp only[Exit.inBlock,Exit.then])
   refine bK (dM rfl _ _ (w.heap.size+1) 24 #[.int .i64 T.k,.string ⟨#[]⟩,.int .i64 0,.string ⟨#[]⟩,v] (0,0) _ rfl (bW _ _ _ _ _ _ (aa HX)) underlying24 rfl eM) rfl ?_;exact⟨⟨U,by have h:=(aa HU).1;unfold ai at h;rw[h],(aa HU).2.1,((aa HU).2.2.setRow (by omega) _).mono (by omega)⟩,ed (aa HK).bel _ (by omega) _⟩
end Go.Proofs.YtlmnjbipfacniaaGreatDoor
