/- What the document's In, texts and numbers do, for every kind -/
import Derived.Test.YtlmnjbipfacniaaGreatDoorPatSizePs
import Derived.Test.YtlmnjbipfacniaaGreatDoorWrDMs
import Derived.Test.YtlmnjbipfacniaaGreatDoorSyNMs
set_option maxRecDepth 100000
set_option maxHeartbeats 4000000
namespace Go.Proofs.YtlmnjbipfacniaaGreatDoor
open Go.Proofs.Tryz
open Go.RowKit
theorem B5 (k:Int) (l:List Int) (g:Nat) (w:World) (hl:l.length≤24) (hc:∀i,i < l.length→w.cell? ⟨g,i,none⟩=some (.int .i64 (l.getD i 0))):
  Calls prog 60 #[.int .i64 k,.slice (some ⟨g,0,none⟩) l.length l.length] w fun e w'=>e=.returned (.bool (decide (k ∈ l)))∧w'=w:=by
 have HC:=ab hc;clear hc;generalize hn:l.length=n at *;have HN:=ab hn;clear hn;go_enter func60,ntmps60;go_wp2;go_loop [9] (fun i=>∃j:Nat,j≤n∧i=.int .i64 (j:Int)∧∀q,q < j→l.getD q 0≠k) (fun i=>n - (intOf i).toNat)
 case atStart=>exact⟨0,by omega,rfl,fun q hq=>by omega⟩
 case round=>
  obtain⟨j,hj,rfl,hq⟩:=hrel;have HQ:=ab hq;clear hq;rcases cG j n with hjt | hjt
  ·have c:=aa HC j hjt
   by_cases he:l.getD j 0=k
   ·have HM:Hid (decide (k ∈ l)=true):=ab (by
     rw[decide_eq_true_eq,←he];have:j < l.length:=by rw[aa HN];exact hjt
     rw[List.getD,gT this];exact uL this)
    have hb:(l.getD j 0==k)=true:=bt he;clear he;generalize l.getD j 0=x at *;go_wp2;go_ret;exact⟨by rw[aa HM];rfl,rfl⟩
   ·have HW:Hid (∀q,q < j+1→l.getD q 0≠k):=ab (fun q hq=>by
     rcases cG q j with h | h
     ·exact aa HQ q h
     ·rw[show q=j by omega];exact he)
    have hb:(l.getD j 0==k)=false:=bn he;clear he;generalize l.getD j 0=x at *;go_wp2;exact⟨⟨j+1,by omega,by go_num,aa HW⟩,by simp[intOf];omega⟩
  ·have HM:Hid (decide (k ∈ l)=false):=ab (by
    rw[decide_eq_false_iff_not];intro hm;obtain⟨q,hq,he⟩:=List.getElem_of_mem hm;refine aa HQ q (by have:=aa HN;omega) ?_
    rw[List.getD,gT hq];exact he)
   go_wp2;go_ret;exact⟨by rw[aa HM];rfl,rfl⟩
theorem Bj {w:World} {g:Nat} {l:List Int} {t:TypeId} (h:w.heap[g]? =some (.cells (l.map fun n=>Value.int .i64 n).toArray t (0,0))):∀i,i < l.length→w.cell? ⟨g,i,none⟩=some (.int .i64 (l.getD i 0)):=fun i hi=>by
 rw[eB _ _ _ _ _ _ h];simp[List.getD,hi]
def pO (k:Int):Bool:=decide (k ∈ [3,4,5,6,7])
theorem JU (k:Int) (g:Nat) (w:World) (h:w.heap[g]? =some (.cells #[.int .i64 3,.int .i64 4,.int .i64 5,.int .i64 6,.int .i64 7] 3 (0,0))):
  Calls prog 60 #[.int .i64 k,.slice (some ⟨g,0,none⟩) 5 5] w fun e w'=>e=.returned (.bool (pO k))∧w'=w:=B5 k [3,4,5,6,7] g w (by decide) (Bj h)
def pQ (k:Int):Bool:=decide (k ∈ [2,8,9,10,11])
theorem Lr (k:Int) (g:Nat) (w:World) (h:w.heap[g]? =some (.cells #[.int .i64 2,.int .i64 8,.int .i64 9,.int .i64 10,.int .i64 11] 3 (0,0))):
  Calls prog 60 #[.int .i64 k,.slice (some ⟨g,0,none⟩) 5 5] w fun e w'=>e=.returned (.bool (pQ k))∧w'=w:=B5 k [2,8,9,10,11] g w (by decide) (Bj h)
def qO (k:Int):Bool:=decide (k ∈ [21,22,23,24])
theorem xO (k:Int) (g:Nat) (w:World) (h:w.heap[g]? =some (.cells #[.int .i64 21,.int .i64 22,.int .i64 23,.int .i64 24] 3 (0,0))):
  Calls prog 60 #[.int .i64 k,.slice (some ⟨g,0,none⟩) 4 4] w fun e w'=>e=.returned (.bool (qO k))∧w'=w:=B5 k [21,22,23,24] g w (by decide) (Bj h)
theorem zm (k:Int) (w:World):
  Calls prog 58 #[.int .i64 k] w fun e w'=>e=.returned (.bool (pO k))∧Below w.heap.size w w':=by
 go_enter func58,ntmps58;go_wp2_with (go_at_call 60;refine(JU k _ _ (ax rfl)).mono ?_;rintro e w1 ⟨rfl,rfl⟩);go_ret;exact⟨rfl,ba _⟩
theorem xI (k:Int) (w:World):
  Calls prog 59 #[.int .i64 k] w fun e w'=>e=.returned (.bool (pQ k))∧Below w.heap.size w w':=by
 go_enter func59,ntmps59;go_wp2_with (go_at_call 60;refine(Lr k _ _ (ax rfl)).mono ?_;rintro e w1 ⟨rfl,rfl⟩);go_ret;exact⟨rfl,ba _⟩
open Go.RowKit
theorem gS {w:World} {g:Nat} {a b c d e:Value} (h:w.heap[g]? =some (.cells #[a,b,c,d,e] 27 (0,0))):w.cell? ⟨g,0,none⟩=some a∧w.cell? ⟨g,1,none⟩=some b∧w.cell? ⟨g,2,none⟩=some c∧w.cell? ⟨g,3,none⟩=some d∧w.cell? ⟨g,4,none⟩=some e:=ee h
structure Bre (w:World) (T:PT) (t:ByteArray) (n:Int) (nm:ByteArray) (wr:World) (v:Value) (i:Nat) (L:List PT):Prop where
 inn:wr.heap[w.heap.size]? =some (.cells (ai T) 27 (0,0))
 box:wr.heap[w.heap.size+1]? =some (.cells aB 27 (0,0))
 out:wr.heap[w.heap.size+1+1]? =some (.cells #[.int .i64 T.k,.string t,.int .i64 n,.string nm,v] 27 (0,0))
 bel:Below w.heap.size w wr
 kids:KidsL (w.heap.size+1+1+1) wr v L ((T.lst.take i).map PT.bar)
theorem Bre.lt {w:World} {T:PT} {t:ByteArray} {n:Int} {nm:ByteArray} {wr:World} {v:Value} {i:Nat} {L:List PT} (h:Bre w T t n nm wr v i L):w.heap.size+1+1 < wr.heap.size:=(bC.1 h.out).1
theorem Bre.len {w:World} {T:PT} {t:ByteArray} {n:Int} {nm:ByteArray} {wr:World} {v:Value} {i:Nat} {L:List PT} (h:Bre w T t n nm wr v i L) (hi:i≤T.len):L.length=i:=by
 have:=aD List.length h.kids.can;rw[oT,oT,List.length_take,PT.lst_len] at this;omega
theorem Bre.put {w:World} {T:PT} {t:ByteArray} {n:Int} {nm:ByteArray} {wr w3 w4 w6:World} {v v':Value} {i:Nat} {L:List PT} {U:PT} (h:Bre w T t n nm wr v i L) (hi:i < T.len) (hb3:Below wr.heap.size wr w3) (hb:Below w3.heap.size w3 w4) (hU:U.can=(T.kid i).bar) (hL:bf w3.heap.size w4 U)
  (aS:bP w6 (w.heap.size+1+1+1) 27 5 eH v' (L++[U])) (hg:(w4.alloc (.cells (ai U) 27)).grownBy w6 v.ownBlock) (hn:v'.ownBlock=v.ownBlock∨v'.ownBlock=some (w4.alloc (.cells (ai U) 27)).heap.size):
  Bre w T t n nm (w6.setCell ⟨w.heap.size+1+1,4,none⟩ v') v' (i+1) (L++[U]):=by
 have hk3:KidsL (w.heap.size+1+1+1) w3 v L ((T.lst.take i).map PT.bar):=h.kids.step hb3.size fun j _ h2=>hb3.block j h2
 have hb5:Below w4.heap.size w4 (w4.alloc (.cells (ai U) 27)):=ba _;have gX:Below w3.heap.size w3 (w4.alloc (.cells (ai U) 27)):=aq hb hb5;have eR:bP (w4.alloc (.cells (ai U) 27)) (w.heap.size+1+1+1) 27 5 eH v L:=hk3.row.later gX;have au:=h.lt;have old:∀k x,k < w.heap.size+1+1+1→wr.heap[k]? =some x→w6.heap[k]? =some x:=fun k x hk hx=>oJ eR hg (an (an hx hb3) gX) hk
 have hk6:KidsL (w.heap.size+1+1+1) w6 v' (L++[U]) ((T.lst.take i).map PT.bar++[U.can]):=hk3.snoc (by have:=hb3.size;omega) (But.of_below (z:=0) hb) (by omega) hL aS hg hn
 have o6:=old _ _ (by omega) h.out
 have hlt6:w.heap.size+1+1 < w6.heap.size:=(bC.1 o6).1;refine⟨(dh w6 ⟨w.heap.size+1+1,4,none⟩ _ _ (by show w.heap.size≠w.heap.size+1+1;omega)).trans (old _ _ (by omega) h.inn),(dh w6 ⟨w.heap.size+1+1,4,none⟩ _ _ (by show w.heap.size+1≠w.heap.size+1+1;omega)).trans (old _ _ (by omega) h.box),fB w6 (w.heap.size+1+1) 4 _ _ v' o6, ?_, ?_⟩
 ·refine lz ?_ (by omega) _ _
  have cw:Below w.heap.size w (w4.alloc (.cells (ai U) 27)):=aq (aq h.bel hb3) gX;exact⟨hg.os.trans cw.os,hg.tape.trans cw.tape,hg.output.trans cw.output,bv cw.size hg.size,fun k hk=>(hg.block k (gL hk cw.size) fun e=>by have:=(eR.low e.symm).1;omega).trans (cw.block k hk)⟩
 ·have e:(T.lst.take (i+1)).map PT.bar=(T.lst.take i).map PT.bar++[U.can]:=by
   rw[xB,PT.lst_at hi,oU,hU];rfl
  rw[e];exact hk6.step (by simp) fun j hj _=>dh w6 ⟨w.heap.size+1+1,4,none⟩ j _ (by show j≠w.heap.size+1+1;omega)
theorem Bre.fin {w:World} {T:PT} {t:ByteArray} {n:Int} {nm:ByteArray} {wr:World} {v:Value} {L:List PT} (h:Bre w T t n nm wr v T.len L) (aA:T.bad=0) (ht:t=if aO T.k=1 then T.t else ⟨#[]⟩) (hn:n=if aO T.k=2 then T.n else 0) (hm:nm=if aO T.k=3 then T.nm else ⟨#[]⟩):
  ∃U:PT,ai U= #[.int .i64 T.k,.string t,.int .i64 n,.string nm,v]∧U.can=T.bar∧bf (w.heap.size+1+1+1) wr U:=by
 obtain⟨he,hk⟩:=fG aA;obtain⟨k1,k24,rt,rn,rm,eN,jz⟩:=jo he;have gM:(T.lst.take T.len)=T.lst:=Aq (by rw[PT.lst_len];exact aw _)
 have cA:=h.kids.can;rw[gM] at cA;have tr:t.size≤65536:=by
  rw[ht];split
  ·rename_i q;exact rt q
  ·decide
 have uT:nm.size≤65536:=by
  rw[hm];split
  ·rename_i q;have:=mq (rm q);omega
  ·decide
 have j7:0≤n∧n≤65536:=by
  rw[hn];split
  ·rename_i q;exact rn q
  ·decide
 have hl:=h.len (aw _)
 by_cases h0:T.len=0
 ·have hL:L=[]:=kG (by omega)
  subst hL;have hv:v=.slice none 0 0∨∃g cap,v=.slice (some ⟨g,0,none⟩) 0 cap∧0≤cap∧cap≤maxLen:=by
   rcases h.kids.row.2 with ⟨hv,_⟩ | ⟨g,cap,cur,hv,_,_,_,hm,_⟩
   ·exact .inl hv
   ·exact .inr ⟨g,cap,hv,cU _,hm⟩
  have lh:T.bar=aP T.k t n nm []:=by rw[T.bar_eq,rP h0,←ht,←hn,←hm];rfl
  rcases hv with rfl | ⟨g,cap,rfl, -, -⟩
  ·exact⟨aP T.k t n nm [],rfl,by rw[pL,lh],sT (by omega) (by omega) tr uT⟩
  ·refine⟨⟨T.k,t,n,nm,some ⟨g,0,none⟩,g,0,0,cap,fun i=>i.elim0⟩,rfl, ?_,fun X _=>⟨by constructor <;> omega,by unfold maxLen;omega,by constructor <;> omega,by unfold maxLen;omega,by unfold maxLen;decide,cU _,fun h=>absurd h (wu _),fun i=>i.elim0⟩⟩
   rw[lh,PT.can_eq];rfl
 ·have hr:18≤T.k∧T.k≤22:=by
   by_cases q:T.k=18∨T.k=19
   ·omega
   ·by_cases r:20≤T.k∧T.k≤22
    ·omega
    ·have:cM T.k=0:=by unfold cM;rw[ac q,ac r]
     omega
  have qp:aO T.k≠1:=by intro q;unfold aO at q;rw[ac (by omega),ac (by omega)] at q;split at q <;> omega
  have qo:aO T.k≠2:=by intro q;unfold aO at q;rw[ac (by omega),ac (by omega)] at q;split at q <;> omega
  rw[ac qp] at ht;rw[ac qo] at hn;subst ht hn;have bi:L≠[]:=fun q=>h0 (by rw[←hl,q];rfl)
  obtain⟨g,cap,hv, -, -⟩:=h.kids.row.form bi;subst hv;obtain⟨K,hK⟩:∃K:Nat,T.k=(K:Int):=⟨T.k.toNat,by omega⟩
  refine⟨fS T.k nm g cap L,rfl, ?_,by rw[hK];exact Dr (by omega) uT h.kids⟩
  rw[wS,cA,T.bar_eq,ac qp,ac qo,←hm]
def qK (T:PT):Prop:=∀w:World,T.In w→T.bad=0→Calls prog 29 #[pv T] w fun e w'=>(∃U:PT,e=.returned (pv U)∧U.can=T.bar∧bf w.heap.size w' U)∧Below w.heap.size w w'
theorem Ka {T:PT} (ih:∀i,i < T.len→qK (T.kid i)) (hc:12≤T.k∧T.k≤20):qK T:=by
 intro w hT aA;have HA:=ab hT;have gO:=ab aA;have gR:=ab (fG aA).2;have IH:=ab ih;have ej:Hid (T.len≤4096):=ab (by
  obtain⟨-, -, -, -, -, -,jz⟩:=jo (fG aA).1;unfold cM at jz;split at jz
  ·omega
  ·split at jz <;> omega)
 have kq:Hid (⟨#[]⟩=if aO T.k=1 then T.t else ⟨#[]⟩):=ab (by rw[ac (by intro q;unfold aO at q;split at q <;> (try split at q) <;> (try split at q) <;> omega)])
 have dd:Hid (0=if aO T.k=2 then T.n else 0):=ab (by rw[ac (by intro q;unfold aO at q;split at q <;> (try split at q) <;> (try split at q) <;> omega)])
 have eF:Hid (⟨#[]⟩=if aO T.k=3 then T.nm else ⟨#[]⟩):=ab (by rw[ac (by intro q;unfold aO at q;split at q <;> (try split at q) <;> (try split at q) <;> omega)])
 have e1:(T.k==1)=false:=bn;have HT:Hid (pO T.k=false):=ab (by unfold pO;exact db (by simp;omega))
 have HN:Hid (pQ T.k=false):=ab (by unfold pQ;exact db (by simp;omega))
 have HM:Hid (qO T.k=false):=ab (by unfold qO;exact db (by simp;omega))
 obtain⟨W,hW⟩:∃W,W=((w.alloc (.cells (ai T) 27)).alloc (.cells aB 27)).alloc (.cells #[.int .i64 T.k,.string ⟨#[]⟩,.int .i64 0,.string ⟨#[]⟩,.slice none 0 0] 27):=⟨_,rfl⟩;have HB:Hid (Below w.heap.size w W):=ab (by rw[hW];exact((ba _).alloc (by simp) _).alloc (by simp;omega) _)
 have HO:Hid (W.heap[w.heap.size+1+1]? =some (.cells #[.int .i64 T.k,.string ⟨#[]⟩,.int .i64 0,.string ⟨#[]⟩,.slice none 0 0] 27 (0,0))):=ab (by rw[hW];exact ax (by simp))
 have HX:Hid (W.heap[w.heap.size+1]? =some (.cells aB 27 (0,0))):=ab (by rw[hW];exact ci (by simp) (ax (by simp)))
 have HP:Hid (W.heap[w.heap.size]? =some (.cells (ai T) 27 (0,0))):=ab (by rw[hW];exact ci (by simp;omega) (ci (by simp) (ax rfl)))
 have HW:=ab hW;have sn:¬w.heap.size=w.heap.size+1+1:=by omega
 have sj:¬w.heap.size+1+1=w.heap.size:=by omega
 clear hT aA ih hW hc;unfold pv;go_enter func29,ntmps29;go_wp2_with fail;rw[show ((w.alloc (.cells #[.int .i64 T.k,.string T.t,.int .i64 T.n,.string T.nm,.slice T.xa T.len T.cap] 27)).alloc (.cells #[.int .i64 0,.string ⟨#[]⟩,.int .i64 0,.string ⟨#[]⟩,.slice none 0 0] 27)).alloc (.cells #[.int .i64 T.k,.string ⟨#[]⟩,.int .i64 0,.string ⟨#[]⟩,.slice none 0 0] 27)=W from (aa HW).symm];clear HW;refine(zm T.k _).mono ?_;rintro e W1 ⟨rfl,hb⟩;have HP:=ab (an (aa HP) hb);have HX:=ab (an (aa HX) hb);have HO:=ab (an (aa HO) hb);have HB:=ab (aq (aa HB) hb);clear hb;rw[aa HT];generalize W1=W at *;obtain⟨c0,c1,c2,c3,c4⟩:=ee (aa HP);obtain⟨o0,o1,o2,o3,o4⟩:=gS (aa HO);have of:=fun k=>cN W (w.heap.size+1+1) k _ _ (aa HO)
 go_wp2_with fail;clear c0 c1 c2 c3 c4 o0 o1 o2 o3 o4 of;refine(xI T.k _).mono ?_;rintro e W1 ⟨rfl,hb⟩;have HP:=ab (an (aa HP) hb);have HX:=ab (an (aa HX) hb);have HO:=ab (an (aa HO) hb);have HB:=ab (aq (aa HB) hb);clear hb;rw[aa HN];generalize W1=W at *;obtain⟨c0,c1,c2,c3,c4⟩:=ee (aa HP);obtain⟨o0,o1,o2,o3,o4⟩:=gS (aa HO);have of:=fun k=>cN W (w.heap.size+1+1) k _ _ (aa HO)
 go_wp2_with fail;clear c0 c1 c2 c3 c4 o0 o1 o2 o3 o4 of;have hb9:Below W.heap.size W (W.alloc (.cells #[.int .i64 21,.int .i64 22,.int .i64 23,.int .i64 24] 3)):=ba _;refine(xO T.k _ _ (ax (by simp))).mono ?_
 rintro e W1 ⟨rfl,rfl⟩;have HP:=ab (an (aa HP) hb9);have HX:=ab (an (aa HX) hb9);have HO:=ab (an (aa HO) hb9);have HB:=ab (aq (aa HB) hb9);clear hb9;rw[aa HM];generalize W.alloc (.cells #[.int .i64 21,.int .i64 22,.int .i64 23,.int .i64 24] 3)=W at *;obtain⟨c0,c1,c2,c3,c4⟩:=ee (aa HP);obtain⟨o0,o1,o2,o3,o4⟩:=gS (aa HO);have of:=fun k=>cN W (w.heap.size+1+1) k _ _ (aa HO)
 go_wp2_with fail;clear c0 c1 c2 c3 c4 o0 o1 o2 o3 o4 of;have aF:Hid (Bre w T ⟨#[]⟩ 0 ⟨#[]⟩ W (.slice none 0 0) 0 []):=ab (⟨aa HP,aa HX,aa HO,aa HB,⟨lX _ _ _ _,rfl,fun x hx=>absurd hx eg⟩⟩)
 clear HP HX HO HB;go_loopw [36] (fun x wr=>∃(k:Nat) (v:Value) (L:List PT),k≤T.len∧x=.int .i64 (k:Int)∧Hid (Bre w T ⟨#[]⟩ 0 ⟨#[]⟩ wr v k L)) (fun x _=>T.len - (intOf x).toNat)
 case atStart=>exact⟨0,_,[],cU _,rfl,aa aF⟩
 case round=>
  obtain⟨k,v,L,hk,rfl,HK⟩:=hrel;clear aF;have fO:=aa ej;rcases cG k T.len with au | gD
  ·have g1:(k:Int) < (T.len:Int):=by omega
   have lo:=kid_at (aa HA) au;have bq:=(aa HA).cells au;unfold PT.kv at bq;have HC:=ab (fun W (hb:Below w.heap.size w W)=>aa IH k au W (PT.In.later hb ((aa HA).kids au)) (aa gR k au))
   have cd:=(fun (i:Nat) (x:Value) (h:w.cell? ⟨T.b,i,none⟩=some x)=>av (aa HK).bel h)
   have a0:=cd _ _ bq.1;have a1:=cd _ _ bq.2.1;have a2:=cd _ _ bq.2.2.1;have a3:=cd _ _ bq.2.2.2.1;have a4:=cd _ _ bq.2.2.2.2;clear cd bq;obtain⟨P,hP⟩:∃P,T.kid k=P:=⟨_,rfl⟩;rw[hP] at HC a0 a1 a2 a3 a4;have kh:=ab hP;clear hP;unfold pv at HC;have hb3:Below wr.heap.size wr (wr.alloc (.cells (ai P) 27)):=ba _;have hq:(wr.alloc (.cells (ai P) 27)).heap[wr.heap.size]? =some (.cells (ai P) 27 (0,0)):=ax rfl;have kj:=ab (an (aa HK).out hb3);have ao:=ab hb3;have dG:=ab hq;go_wp2_with fail;rw[show (#[.int .i64 P.k,.string P.t,.int .i64 P.n,.string P.nm,.slice P.xa P.len P.cap]:Array Value)=ai P from rfl];generalize (wr.alloc (.cells (ai P) 27))=w3 at *;obtain⟨q0,q1,q2,q3,q4⟩:=ee (aa dG);obtain⟨o0,o1,o2,o3,o4⟩:=gS (aa kj);clear hq hb3 a0 a1 a2 a3 a4 o0 o1 o2 o3;have dW:=ab (aa HK).lt;obtain⟨S0,aN⟩:∃S0:World→Prop,S0=fun w'=>w'.cell? ⟨w.heap.size+1+1,4,none⟩=some v∧w'.cell? ⟨wr.heap.size,0,none⟩=some (.int .i64 P.k)∧w'.cell? ⟨wr.heap.size,1,none⟩=some (.string P.t)∧w'.cell? ⟨wr.heap.size,2,none⟩=some (.int .i64 P.n)∧w'.cell? ⟨wr.heap.size,3,none⟩=some (.string P.nm)∧w'.cell? ⟨wr.heap.size,4,none⟩=some (.slice P.xa P.len P.cap):=⟨_,rfl⟩
   have ap:=ab aN;have hS:S0 w3.drew:=by rw[aN];exact⟨o4,q0,q1,q2,q3,q4⟩
   have aW:Hid (∀W,Below w3.heap.size w3 W→S0 W):=ab (fun W h=>by rw[aN];exact⟨av h o4,av h q0,av h q1,av h q2,av h q3,av h q4⟩)
   clear aN;refine gt 7 S0 ?_;intro F;refine aK F 0 ap hS ?_
   (try go_frame)
   refine aK F 1 ap hS ?_
   (try go_frame)
   refine aK F 2 ap hS ?_
   (try go_frame)
   refine ce 3 (fun K3 cC=> ?_)
   go_simp;have j4:Below w.heap.size w w3.drew:=(aq (aa HK).bel (aa ao)).drew;refine(aa HC _ j4).mono ?_;rintro e w4 ⟨⟨U,rfl,hU,hL⟩,hb4⟩;have hb4':Below w3.heap.size w3 w4:=aq (aV _ _).drew hb4;refine cC _ _ (aa aW _ hb4') ?_;refine ce 4 (fun K4 bw=> ?_)
   (try unfold pv)
   go_simp;have hb5:Below w4.heap.size w4 (w4.alloc (.cells (ai U) 27)):=ba _;refine bw _ _ (aa aW _ (aq hb4' hb5)) ?_;refine ce 5 (fun K5 dy=> ?_)
   have dn:bP (w4.alloc (.cells (ai U) 27)) (w.heap.size+1+1+1) 27 5 eH v L:=((aa HK).kids.row.later (aa ao)).later (aq hb4' hb5);have su:=(aa HK).len hk;refine qH underlying25 vT rfl (by decide) (by decide) iX nU rfl (.tmp 41) (.tmp 44) rfl dn (by rw[dS];have:=aa dW;have:=hb4'.size;have:=(aa ao).size;omega) U w4.heap.size 1 rfl rfl vS (by have:=aa ej;omega) ?_
   intro v' w6 aS bI dP;have dY:=ab ((aa HK).put au (aa ao) hb4' (by rw[hU,aa kh]) hL aS bI dP)
   have hfz:=cN w6 (w.heap.size+1+1) 4 _ _ (show w6.heap[w.heap.size+1+1]? =_ from oJ dn bI (an (an (aa HK).out (aa ao)) (aq hb4' hb5)) (by omega))
   have ge:=(gS (show w6.heap[w.heap.size+1+1]? =_ from oJ dn bI (an (an (aa HK).out (aa ao)) (aq hb4' hb5)) (by omega))).2.2.2.2
   have ec:Hid (S0 w6):=ab (by
    rw[aa ap];have dN:w6.heap[wr.heap.size]? =_:=(bI.block wr.heap.size (gL (bC.1 (aa dG)).1 (aq hb4' hb5).size) (fun e=>by have h1:=((aa HK).kids.row.low e.symm).2;omega)).trans (an (aa dG) (aq hb4' hb5))
    obtain⟨z0,z1,z2,z3,z4⟩:=ee dN;exact⟨ge,z0,z1,z2,z3,z4⟩)
   obtain⟨g6,cap6,dZ, -, -⟩:=aS.form (by simp)
   generalize (L++[U]).length=n6 at dZ;subst dZ;refine dy _ _ (aa ec) ?_;refine ce 6 (fun K6 gj=> ?_)
   go_simp;refine gj _ _ (aa ec) ?_;refine gy (by kernel_rfl) rfl (by kernel_rfl) (fun K7 gi=> ?_)
   clear aS bI dP dn hb5 hb4 hb4' hL hU hS q0 q1 q2 q3 q4 o4;go_simp;refine gi _ _ ?_
   (try simp only[aH,aJ,aG])
   (try go_frame)
   clear gi gj dy bw cC K7 K6 K5 K4 K3 F ap aW ge hfz;go_wp2_with fail;exact⟨⟨k+1,_,L++[U],by omega,rfl,aa dY⟩,by simp[intOf];omega⟩
  ·obtain rfl:k=T.len:=by omega
   have g1:¬(T.len:Int) < (T.len:Int):=by omega
   obtain⟨U,gh,d5,gg⟩:=(aa HK).fin (aa gO) (aa kq) (aa dd) (aa eF);obtain⟨o0,o1,o2,o3,o4⟩:=gS (aa HK).out;have HX:=ab (aa HK).box;have HU:=ab (And.intro gh (And.intro d5 gg));have ay:=(aa HK).lt;clear gh d5 gg;go_wp2_with (first
    | (refine bh rfl 27 _ _ rfl (w.heap.size+1) #[.int .i64 T.k,.string ⟨#[]⟩,.int .i64 0,.string ⟨#[]⟩,v] rfl rfl 27 aB (aa HX) dE rfl (by rw[←(aa HU).1];exact gZ U) ?_)
    | fail)
   (try simp only[Exit.inBlock,Exit.then])
   refine bK (dM rfl _ _ (w.heap.size+1) 27 #[.int .i64 T.k,.string ⟨#[]⟩,.int .i64 0,.string ⟨#[]⟩,v] (0,0) _ rfl (bW _ _ _ _ _ _ (aa HX)) underlying27 rfl dE) rfl ?_;exact⟨⟨U,by have h:=(aa HU).1;unfold ai at h;rw[h],(aa HU).2.1,((aa HU).2.2.setRow (by omega) _).mono (by omega)⟩,ed (aa HK).bel _ (by omega) _⟩
open Go.RowKit
theorem LP {T:PT} (ih:∀i,i < T.len→qK (T.kid i)) (hc:T.k=1):qK T:=by
 intro w hT aA;have HA:=ab hT;have gO:=ab aA;have gR:=ab (fG aA).2;have IH:=ab ih;have ej:Hid (T.len≤4096):=ab (by
  obtain⟨-, -, -, -, -, -,jz⟩:=jo (fG aA).1;unfold cM at jz;split at jz
  ·omega
  ·split at jz <;> omega)
 have kq:Hid (T.t=if aO T.k=1 then T.t else ⟨#[]⟩):=ab (by rw[af (by unfold aO;rw[af (by omega)])])
 have dd:Hid (0=if aO T.k=2 then T.n else 0):=ab (by rw[ac (by intro q;unfold aO at q;split at q <;> (try split at q) <;> (try split at q) <;> omega)])
 have eF:Hid (⟨#[]⟩=if aO T.k=3 then T.nm else ⟨#[]⟩):=ab (by rw[ac (by intro q;unfold aO at q;split at q <;> (try split at q) <;> (try split at q) <;> omega)])
 have e1:(T.k==1)=true:=bt;have HT:Hid (pO T.k=false):=ab (by unfold pO;exact db (by simp;omega))
 have HN:Hid (pQ T.k=false):=ab (by unfold pQ;exact db (by simp;omega))
 have HM:Hid (qO T.k=false):=ab (by unfold qO;exact db (by simp;omega))
 obtain⟨W,hW⟩:∃W,W=((w.alloc (.cells (ai T) 27)).alloc (.cells aB 27)).alloc (.cells #[.int .i64 T.k,.string T.t,.int .i64 0,.string ⟨#[]⟩,.slice none 0 0] 27):=⟨_,rfl⟩;have HB:Hid (Below w.heap.size w W):=ab (by rw[hW];exact((ba _).alloc (by simp) _).alloc (by simp;omega) _)
 have HO:Hid (W.heap[w.heap.size+1+1]? =some (.cells #[.int .i64 T.k,.string T.t,.int .i64 0,.string ⟨#[]⟩,.slice none 0 0] 27 (0,0))):=ab (by rw[hW];exact ax (by simp))
 have HX:Hid (W.heap[w.heap.size+1]? =some (.cells aB 27 (0,0))):=ab (by rw[hW];exact ci (by simp) (ax (by simp)))
 have HP:Hid (W.heap[w.heap.size]? =some (.cells (ai T) 27 (0,0))):=ab (by rw[hW];exact ci (by simp;omega) (ci (by simp) (ax rfl)))
 have HW:=ab hW;have sn:¬w.heap.size=w.heap.size+1+1:=by omega
 have sj:¬w.heap.size+1+1=w.heap.size:=by omega
 clear hT aA ih hW hc;unfold pv;go_enter func29,ntmps29;go_wp2_with fail;rw[show ((w.alloc (.cells #[.int .i64 T.k,.string T.t,.int .i64 T.n,.string T.nm,.slice T.xa T.len T.cap] 27)).alloc (.cells #[.int .i64 0,.string ⟨#[]⟩,.int .i64 0,.string ⟨#[]⟩,.slice none 0 0] 27)).alloc (.cells #[.int .i64 T.k,.string T.t,.int .i64 0,.string ⟨#[]⟩,.slice none 0 0] 27)=W from (aa HW).symm];clear HW;refine(xI T.k _).mono ?_;rintro e W1 ⟨rfl,hb⟩;have HP:=ab (an (aa HP) hb);have HX:=ab (an (aa HX) hb);have HO:=ab (an (aa HO) hb);have HB:=ab (aq (aa HB) hb);clear hb;rw[aa HN];generalize W1=W at *;obtain⟨c0,c1,c2,c3,c4⟩:=ee (aa HP);obtain⟨o0,o1,o2,o3,o4⟩:=gS (aa HO);have of:=fun k=>cN W (w.heap.size+1+1) k _ _ (aa HO)
 go_wp2_with fail;clear c0 c1 c2 c3 c4 o0 o1 o2 o3 o4 of;have hb9:Below W.heap.size W (W.alloc (.cells #[.int .i64 21,.int .i64 22,.int .i64 23,.int .i64 24] 3)):=ba _;refine(xO T.k _ _ (ax (by simp))).mono ?_
 rintro e W1 ⟨rfl,rfl⟩;have HP:=ab (an (aa HP) hb9);have HX:=ab (an (aa HX) hb9);have HO:=ab (an (aa HO) hb9);have HB:=ab (aq (aa HB) hb9);clear hb9;rw[aa HM];generalize W.alloc (.cells #[.int .i64 21,.int .i64 22,.int .i64 23,.int .i64 24] 3)=W at *;obtain⟨c0,c1,c2,c3,c4⟩:=ee (aa HP);obtain⟨o0,o1,o2,o3,o4⟩:=gS (aa HO);have of:=fun k=>cN W (w.heap.size+1+1) k _ _ (aa HO)
 go_wp2_with fail;clear c0 c1 c2 c3 c4 o0 o1 o2 o3 o4 of;have aF:Hid (Bre w T T.t 0 ⟨#[]⟩ W (.slice none 0 0) 0 []):=ab (⟨aa HP,aa HX,aa HO,aa HB,⟨lX _ _ _ _,rfl,fun x hx=>absurd hx eg⟩⟩)
 clear HP HX HO HB;go_loopw [36] (fun x wr=>∃(k:Nat) (v:Value) (L:List PT),k≤T.len∧x=.int .i64 (k:Int)∧Hid (Bre w T T.t 0 ⟨#[]⟩ wr v k L)) (fun x _=>T.len - (intOf x).toNat)
 case atStart=>exact⟨0,_,[],cU _,rfl,aa aF⟩
 case round=>
  obtain⟨k,v,L,hk,rfl,HK⟩:=hrel;clear aF;have fO:=aa ej;rcases cG k T.len with au | gD
  ·have g1:(k:Int) < (T.len:Int):=by omega
   have lo:=kid_at (aa HA) au;have bq:=(aa HA).cells au;unfold PT.kv at bq;have HC:=ab (fun W (hb:Below w.heap.size w W)=>aa IH k au W (PT.In.later hb ((aa HA).kids au)) (aa gR k au))
   have cd:=(fun (i:Nat) (x:Value) (h:w.cell? ⟨T.b,i,none⟩=some x)=>av (aa HK).bel h)
   have a0:=cd _ _ bq.1;have a1:=cd _ _ bq.2.1;have a2:=cd _ _ bq.2.2.1;have a3:=cd _ _ bq.2.2.2.1;have a4:=cd _ _ bq.2.2.2.2;clear cd bq;obtain⟨P,hP⟩:∃P,T.kid k=P:=⟨_,rfl⟩;rw[hP] at HC a0 a1 a2 a3 a4;have kh:=ab hP;clear hP;unfold pv at HC;have hb3:Below wr.heap.size wr (wr.alloc (.cells (ai P) 27)):=ba _;have hq:(wr.alloc (.cells (ai P) 27)).heap[wr.heap.size]? =some (.cells (ai P) 27 (0,0)):=ax rfl;have kj:=ab (an (aa HK).out hb3);have ao:=ab hb3;have dG:=ab hq;go_wp2_with fail;rw[show (#[.int .i64 P.k,.string P.t,.int .i64 P.n,.string P.nm,.slice P.xa P.len P.cap]:Array Value)=ai P from rfl];generalize (wr.alloc (.cells (ai P) 27))=w3 at *;obtain⟨q0,q1,q2,q3,q4⟩:=ee (aa dG);obtain⟨o0,o1,o2,o3,o4⟩:=gS (aa kj);clear hq hb3 a0 a1 a2 a3 a4 o0 o1 o2 o3;have dW:=ab (aa HK).lt;obtain⟨S0,aN⟩:∃S0:World→Prop,S0=fun w'=>w'.cell? ⟨w.heap.size+1+1,4,none⟩=some v∧w'.cell? ⟨wr.heap.size,0,none⟩=some (.int .i64 P.k)∧w'.cell? ⟨wr.heap.size,1,none⟩=some (.string P.t)∧w'.cell? ⟨wr.heap.size,2,none⟩=some (.int .i64 P.n)∧w'.cell? ⟨wr.heap.size,3,none⟩=some (.string P.nm)∧w'.cell? ⟨wr.heap.size,4,none⟩=some (.slice P.xa P.len P.cap):=⟨_,rfl⟩
   have ap:=ab aN;have hS:S0 w3.drew:=by rw[aN];exact⟨o4,q0,q1,q2,q3,q4⟩
   have aW:Hid (∀W,Below w3.heap.size w3 W→S0 W):=ab (fun W h=>by rw[aN];exact⟨av h o4,av h q0,av h q1,av h q2,av h q3,av h q4⟩)
   clear aN;refine gt 7 S0 ?_;intro F;refine aK F 0 ap hS ?_
   (try go_frame)
   refine aK F 1 ap hS ?_
   (try go_frame)
   refine aK F 2 ap hS ?_
   (try go_frame)
   refine ce 3 (fun K3 cC=> ?_)
   go_simp;have j4:Below w.heap.size w w3.drew:=(aq (aa HK).bel (aa ao)).drew;refine(aa HC _ j4).mono ?_;rintro e w4 ⟨⟨U,rfl,hU,hL⟩,hb4⟩;have hb4':Below w3.heap.size w3 w4:=aq (aV _ _).drew hb4;refine cC _ _ (aa aW _ hb4') ?_;refine ce 4 (fun K4 bw=> ?_)
   (try unfold pv)
   go_simp;have hb5:Below w4.heap.size w4 (w4.alloc (.cells (ai U) 27)):=ba _;refine bw _ _ (aa aW _ (aq hb4' hb5)) ?_;refine ce 5 (fun K5 dy=> ?_)
   have dn:bP (w4.alloc (.cells (ai U) 27)) (w.heap.size+1+1+1) 27 5 eH v L:=((aa HK).kids.row.later (aa ao)).later (aq hb4' hb5);have su:=(aa HK).len hk;refine qH underlying25 vT rfl (by decide) (by decide) iX nU rfl (.tmp 41) (.tmp 44) rfl dn (by rw[dS];have:=aa dW;have:=hb4'.size;have:=(aa ao).size;omega) U w4.heap.size 1 rfl rfl vS (by have:=aa ej;omega) ?_
   intro v' w6 aS bI dP;have dY:=ab ((aa HK).put au (aa ao) hb4' (by rw[hU,aa kh]) hL aS bI dP)
   have hfz:=cN w6 (w.heap.size+1+1) 4 _ _ (show w6.heap[w.heap.size+1+1]? =_ from oJ dn bI (an (an (aa HK).out (aa ao)) (aq hb4' hb5)) (by omega))
   have ge:=(gS (show w6.heap[w.heap.size+1+1]? =_ from oJ dn bI (an (an (aa HK).out (aa ao)) (aq hb4' hb5)) (by omega))).2.2.2.2
   have ec:Hid (S0 w6):=ab (by
    rw[aa ap];have dN:w6.heap[wr.heap.size]? =_:=(bI.block wr.heap.size (gL (bC.1 (aa dG)).1 (aq hb4' hb5).size) (fun e=>by have h1:=((aa HK).kids.row.low e.symm).2;omega)).trans (an (aa dG) (aq hb4' hb5))
    obtain⟨z0,z1,z2,z3,z4⟩:=ee dN;exact⟨ge,z0,z1,z2,z3,z4⟩)
   obtain⟨g6,cap6,dZ, -, -⟩:=aS.form (by simp)
   generalize (L++[U]).length=n6 at dZ;subst dZ;refine dy _ _ (aa ec) ?_;refine ce 6 (fun K6 gj=> ?_)
   go_simp;refine gj _ _ (aa ec) ?_;refine gy (by kernel_rfl) rfl (by kernel_rfl) (fun K7 gi=> ?_)
   clear aS bI dP dn hb5 hb4 hb4' hL hU hS q0 q1 q2 q3 q4 o4;go_simp;refine gi _ _ ?_
   (try simp only[aH,aJ,aG])
   (try go_frame)
   clear gi gj dy bw cC K7 K6 K5 K4 K3 F ap aW ge hfz;go_wp2_with fail;exact⟨⟨k+1,_,L++[U],by omega,rfl,aa dY⟩,by simp[intOf];omega⟩
  ·obtain rfl:k=T.len:=by omega
   have g1:¬(T.len:Int) < (T.len:Int):=by omega
   obtain⟨U,gh,d5,gg⟩:=(aa HK).fin (aa gO) (aa kq) (aa dd) (aa eF);obtain⟨o0,o1,o2,o3,o4⟩:=gS (aa HK).out;have HX:=ab (aa HK).box;have HU:=ab (And.intro gh (And.intro d5 gg));have ay:=(aa HK).lt;clear gh d5 gg;go_wp2_with (first
    | (refine bh rfl 27 _ _ rfl (w.heap.size+1) #[.int .i64 T.k,.string T.t,.int .i64 0,.string ⟨#[]⟩,v] rfl rfl 27 aB (aa HX) dE rfl (by rw[←(aa HU).1];exact gZ U) ?_)
    | fail)
   (try simp only[Exit.inBlock,Exit.then])
   refine bK (dM rfl _ _ (w.heap.size+1) 27 #[.int .i64 T.k,.string T.t,.int .i64 0,.string ⟨#[]⟩,v] (0,0) _ rfl (bW _ _ _ _ _ _ (aa HX)) underlying27 rfl dE) rfl ?_;exact⟨⟨U,by have h:=(aa HU).1;unfold ai at h;rw[h],(aa HU).2.1,((aa HU).2.2.setRow (by omega) _).mono (by omega)⟩,ed (aa HK).bel _ (by omega) _⟩
open Go.RowKit
theorem J9 {T:PT} (ih:∀i,i < T.len→qK (T.kid i)) (hc:3≤T.k∧T.k≤7):qK T:=by
 intro w hT aA;have HA:=ab hT;have gO:=ab aA;have gR:=ab (fG aA).2;have IH:=ab ih;have ej:Hid (T.len≤4096):=ab (by
  obtain⟨-, -, -, -, -, -,jz⟩:=jo (fG aA).1;unfold cM at jz;split at jz
  ·omega
  ·split at jz <;> omega)
 have kq:Hid (T.t=if aO T.k=1 then T.t else ⟨#[]⟩):=ab (by rw[af (by unfold aO;rw[af (by omega)])])
 have dd:Hid (0=if aO T.k=2 then T.n else 0):=ab (by rw[ac (by intro q;unfold aO at q;split at q <;> (try split at q) <;> (try split at q) <;> omega)])
 have eF:Hid (⟨#[]⟩=if aO T.k=3 then T.nm else ⟨#[]⟩):=ab (by rw[ac (by intro q;unfold aO at q;split at q <;> (try split at q) <;> (try split at q) <;> omega)])
 have e1:(T.k==1)=false:=bn;have HT:Hid (pO T.k=true):=ab (by unfold pO;exact fk (by simp;omega))
 have HN:Hid (pQ T.k=false):=ab (by unfold pQ;exact db (by simp;omega))
 have HM:Hid (qO T.k=false):=ab (by unfold qO;exact db (by simp;omega))
 obtain⟨W,hW⟩:∃W,W=((w.alloc (.cells (ai T) 27)).alloc (.cells aB 27)).alloc (.cells #[.int .i64 T.k,.string ⟨#[]⟩,.int .i64 0,.string ⟨#[]⟩,.slice none 0 0] 27):=⟨_,rfl⟩;have HB:Hid (Below w.heap.size w W):=ab (by rw[hW];exact((ba _).alloc (by simp) _).alloc (by simp;omega) _)
 have HO:Hid (W.heap[w.heap.size+1+1]? =some (.cells #[.int .i64 T.k,.string ⟨#[]⟩,.int .i64 0,.string ⟨#[]⟩,.slice none 0 0] 27 (0,0))):=ab (by rw[hW];exact ax (by simp))
 have HX:Hid (W.heap[w.heap.size+1]? =some (.cells aB 27 (0,0))):=ab (by rw[hW];exact ci (by simp) (ax (by simp)))
 have HP:Hid (W.heap[w.heap.size]? =some (.cells (ai T) 27 (0,0))):=ab (by rw[hW];exact ci (by simp;omega) (ci (by simp) (ax rfl)))
 have HW:=ab hW;have sn:¬w.heap.size=w.heap.size+1+1:=by omega
 have sj:¬w.heap.size+1+1=w.heap.size:=by omega
 clear hT aA ih hW hc;unfold pv;go_enter func29,ntmps29;go_wp2_with fail;rw[show ((w.alloc (.cells #[.int .i64 T.k,.string T.t,.int .i64 T.n,.string T.nm,.slice T.xa T.len T.cap] 27)).alloc (.cells #[.int .i64 0,.string ⟨#[]⟩,.int .i64 0,.string ⟨#[]⟩,.slice none 0 0] 27)).alloc (.cells #[.int .i64 T.k,.string ⟨#[]⟩,.int .i64 0,.string ⟨#[]⟩,.slice none 0 0] 27)=W from (aa HW).symm];clear HW;refine(zm T.k _).mono ?_;rintro e W1 ⟨rfl,hb⟩;have HP:=ab (an (aa HP) hb);have HX:=ab (an (aa HX) hb);have HO:=ab (an (aa HO) hb);have HB:=ab (aq (aa HB) hb);clear hb;rw[aa HT];generalize W1=W at *;obtain⟨c0,c1,c2,c3,c4⟩:=ee (aa HP);obtain⟨o0,o1,o2,o3,o4⟩:=gS (aa HO);have of:=fun k=>cN W (w.heap.size+1+1) k _ _ (aa HO)
 go_wp2_with fail;clear c0 c1 c2 c3 c4 o0 o1 o2 o3 o4 of;have HP:Hid ((W.setCell ⟨w.heap.size+1+1,1,none⟩ (.string T.t)).heap[w.heap.size]? =some (.cells (ai T) 27 (0,0))):=ab ((dh W ⟨w.heap.size+1+1,1,none⟩ _ _ (by show w.heap.size≠w.heap.size+1+1;omega)).trans (aa HP))
 have HX:Hid ((W.setCell ⟨w.heap.size+1+1,1,none⟩ (.string T.t)).heap[w.heap.size+1]? =some (.cells aB 27 (0,0))):=ab ((dh W ⟨w.heap.size+1+1,1,none⟩ _ _ (by show w.heap.size+1≠w.heap.size+1+1;omega)).trans (aa HX))
 have HO:Hid ((W.setCell ⟨w.heap.size+1+1,1,none⟩ (.string T.t)).heap[w.heap.size+1+1]? =some (.cells #[.int .i64 T.k,.string T.t,.int .i64 0,.string ⟨#[]⟩,.slice none 0 0] 27 (0,0))):=ab (fB W (w.heap.size+1+1) 1 _ _ _ (aa HO));have HB:Hid (Below w.heap.size w (W.setCell ⟨w.heap.size+1+1,1,none⟩ (.string T.t))):=ab (lz (aa HB) (by omega) _ _)
 generalize W.setCell ⟨w.heap.size+1+1,1,none⟩ (.string T.t)=W at *;refine(xI T.k _).mono ?_;rintro e W1 ⟨rfl,hb⟩;have HP:=ab (an (aa HP) hb);have HX:=ab (an (aa HX) hb);have HO:=ab (an (aa HO) hb);have HB:=ab (aq (aa HB) hb);clear hb;rw[aa HN];generalize W1=W at *;obtain⟨c0,c1,c2,c3,c4⟩:=ee (aa HP);obtain⟨o0,o1,o2,o3,o4⟩:=gS (aa HO);have of:=fun k=>cN W (w.heap.size+1+1) k _ _ (aa HO)
 go_wp2_with fail;clear c0 c1 c2 c3 c4 o0 o1 o2 o3 o4 of;have hb9:Below W.heap.size W (W.alloc (.cells #[.int .i64 21,.int .i64 22,.int .i64 23,.int .i64 24] 3)):=ba _;refine(xO T.k _ _ (ax (by simp))).mono ?_
 rintro e W1 ⟨rfl,rfl⟩;have HP:=ab (an (aa HP) hb9);have HX:=ab (an (aa HX) hb9);have HO:=ab (an (aa HO) hb9);have HB:=ab (aq (aa HB) hb9);clear hb9;rw[aa HM];generalize W.alloc (.cells #[.int .i64 21,.int .i64 22,.int .i64 23,.int .i64 24] 3)=W at *;obtain⟨c0,c1,c2,c3,c4⟩:=ee (aa HP);obtain⟨o0,o1,o2,o3,o4⟩:=gS (aa HO);have of:=fun k=>cN W (w.heap.size+1+1) k _ _ (aa HO)
 go_wp2_with fail;clear c0 c1 c2 c3 c4 o0 o1 o2 o3 o4 of;have aF:Hid (Bre w T T.t 0 ⟨#[]⟩ W (.slice none 0 0) 0 []):=ab (⟨aa HP,aa HX,aa HO,aa HB,⟨lX _ _ _ _,rfl,fun x hx=>absurd hx eg⟩⟩)
 clear HP HX HO HB;go_loopw [36] (fun x wr=>∃(k:Nat) (v:Value) (L:List PT),k≤T.len∧x=.int .i64 (k:Int)∧Hid (Bre w T T.t 0 ⟨#[]⟩ wr v k L)) (fun x _=>T.len - (intOf x).toNat)
 case atStart=>exact⟨0,_,[],cU _,rfl,aa aF⟩
 case round=>
  obtain⟨k,v,L,hk,rfl,HK⟩:=hrel;clear aF;have fO:=aa ej;rcases cG k T.len with au | gD
  ·have g1:(k:Int) < (T.len:Int):=by omega
   have lo:=kid_at (aa HA) au;have bq:=(aa HA).cells au;unfold PT.kv at bq;have HC:=ab (fun W (hb:Below w.heap.size w W)=>aa IH k au W (PT.In.later hb ((aa HA).kids au)) (aa gR k au))
   have cd:=(fun (i:Nat) (x:Value) (h:w.cell? ⟨T.b,i,none⟩=some x)=>av (aa HK).bel h)
   have a0:=cd _ _ bq.1;have a1:=cd _ _ bq.2.1;have a2:=cd _ _ bq.2.2.1;have a3:=cd _ _ bq.2.2.2.1;have a4:=cd _ _ bq.2.2.2.2;clear cd bq;obtain⟨P,hP⟩:∃P,T.kid k=P:=⟨_,rfl⟩;rw[hP] at HC a0 a1 a2 a3 a4;have kh:=ab hP;clear hP;unfold pv at HC;have hb3:Below wr.heap.size wr (wr.alloc (.cells (ai P) 27)):=ba _;have hq:(wr.alloc (.cells (ai P) 27)).heap[wr.heap.size]? =some (.cells (ai P) 27 (0,0)):=ax rfl;have kj:=ab (an (aa HK).out hb3);have ao:=ab hb3;have dG:=ab hq;go_wp2_with fail;rw[show (#[.int .i64 P.k,.string P.t,.int .i64 P.n,.string P.nm,.slice P.xa P.len P.cap]:Array Value)=ai P from rfl];generalize (wr.alloc (.cells (ai P) 27))=w3 at *;obtain⟨q0,q1,q2,q3,q4⟩:=ee (aa dG);obtain⟨o0,o1,o2,o3,o4⟩:=gS (aa kj);clear hq hb3 a0 a1 a2 a3 a4 o0 o1 o2 o3;have dW:=ab (aa HK).lt;obtain⟨S0,aN⟩:∃S0:World→Prop,S0=fun w'=>w'.cell? ⟨w.heap.size+1+1,4,none⟩=some v∧w'.cell? ⟨wr.heap.size,0,none⟩=some (.int .i64 P.k)∧w'.cell? ⟨wr.heap.size,1,none⟩=some (.string P.t)∧w'.cell? ⟨wr.heap.size,2,none⟩=some (.int .i64 P.n)∧w'.cell? ⟨wr.heap.size,3,none⟩=some (.string P.nm)∧w'.cell? ⟨wr.heap.size,4,none⟩=some (.slice P.xa P.len P.cap):=⟨_,rfl⟩
   have ap:=ab aN;have hS:S0 w3.drew:=by rw[aN];exact⟨o4,q0,q1,q2,q3,q4⟩
   have aW:Hid (∀W,Below w3.heap.size w3 W→S0 W):=ab (fun W h=>by rw[aN];exact⟨av h o4,av h q0,av h q1,av h q2,av h q3,av h q4⟩)
   clear aN;refine gt 7 S0 ?_;intro F;refine aK F 0 ap hS ?_
   (try go_frame)
   refine aK F 1 ap hS ?_
   (try go_frame)
   refine aK F 2 ap hS ?_
   (try go_frame)
   refine ce 3 (fun K3 cC=> ?_)
   go_simp;have j4:Below w.heap.size w w3.drew:=(aq (aa HK).bel (aa ao)).drew;refine(aa HC _ j4).mono ?_;rintro e w4 ⟨⟨U,rfl,hU,hL⟩,hb4⟩;have hb4':Below w3.heap.size w3 w4:=aq (aV _ _).drew hb4;refine cC _ _ (aa aW _ hb4') ?_;refine ce 4 (fun K4 bw=> ?_)
   (try unfold pv)
   go_simp;have hb5:Below w4.heap.size w4 (w4.alloc (.cells (ai U) 27)):=ba _;refine bw _ _ (aa aW _ (aq hb4' hb5)) ?_;refine ce 5 (fun K5 dy=> ?_)
   have dn:bP (w4.alloc (.cells (ai U) 27)) (w.heap.size+1+1+1) 27 5 eH v L:=((aa HK).kids.row.later (aa ao)).later (aq hb4' hb5);have su:=(aa HK).len hk;refine qH underlying25 vT rfl (by decide) (by decide) iX nU rfl (.tmp 41) (.tmp 44) rfl dn (by rw[dS];have:=aa dW;have:=hb4'.size;have:=(aa ao).size;omega) U w4.heap.size 1 rfl rfl vS (by have:=aa ej;omega) ?_
   intro v' w6 aS bI dP;have dY:=ab ((aa HK).put au (aa ao) hb4' (by rw[hU,aa kh]) hL aS bI dP)
   have hfz:=cN w6 (w.heap.size+1+1) 4 _ _ (show w6.heap[w.heap.size+1+1]? =_ from oJ dn bI (an (an (aa HK).out (aa ao)) (aq hb4' hb5)) (by omega))
   have ge:=(gS (show w6.heap[w.heap.size+1+1]? =_ from oJ dn bI (an (an (aa HK).out (aa ao)) (aq hb4' hb5)) (by omega))).2.2.2.2
   have ec:Hid (S0 w6):=ab (by
    rw[aa ap];have dN:w6.heap[wr.heap.size]? =_:=(bI.block wr.heap.size (gL (bC.1 (aa dG)).1 (aq hb4' hb5).size) (fun e=>by have h1:=((aa HK).kids.row.low e.symm).2;omega)).trans (an (aa dG) (aq hb4' hb5))
    obtain⟨z0,z1,z2,z3,z4⟩:=ee dN;exact⟨ge,z0,z1,z2,z3,z4⟩)
   obtain⟨g6,cap6,dZ, -, -⟩:=aS.form (by simp)
   generalize (L++[U]).length=n6 at dZ;subst dZ;refine dy _ _ (aa ec) ?_;refine ce 6 (fun K6 gj=> ?_)
   go_simp;refine gj _ _ (aa ec) ?_;refine gy (by kernel_rfl) rfl (by kernel_rfl) (fun K7 gi=> ?_)
   clear aS bI dP dn hb5 hb4 hb4' hL hU hS q0 q1 q2 q3 q4 o4;go_simp;refine gi _ _ ?_
   (try simp only[aH,aJ,aG])
   (try go_frame)
   clear gi gj dy bw cC K7 K6 K5 K4 K3 F ap aW ge hfz;go_wp2_with fail;exact⟨⟨k+1,_,L++[U],by omega,rfl,aa dY⟩,by simp[intOf];omega⟩
  ·obtain rfl:k=T.len:=by omega
   have g1:¬(T.len:Int) < (T.len:Int):=by omega
   obtain⟨U,gh,d5,gg⟩:=(aa HK).fin (aa gO) (aa kq) (aa dd) (aa eF);obtain⟨o0,o1,o2,o3,o4⟩:=gS (aa HK).out;have HX:=ab (aa HK).box;have HU:=ab (And.intro gh (And.intro d5 gg));have ay:=(aa HK).lt;clear gh d5 gg;go_wp2_with (first
    | (refine bh rfl 27 _ _ rfl (w.heap.size+1) #[.int .i64 T.k,.string T.t,.int .i64 0,.string ⟨#[]⟩,v] rfl rfl 27 aB (aa HX) dE rfl (by rw[←(aa HU).1];exact gZ U) ?_)
    | fail)
   (try simp only[Exit.inBlock,Exit.then])
   refine bK (dM rfl _ _ (w.heap.size+1) 27 #[.int .i64 T.k,.string T.t,.int .i64 0,.string ⟨#[]⟩,v] (0,0) _ rfl (bW _ _ _ _ _ _ (aa HX)) underlying27 rfl dE) rfl ?_;exact⟨⟨U,by have h:=(aa HU).1;unfold ai at h;rw[h],(aa HU).2.1,((aa HU).2.2.setRow (by omega) _).mono (by omega)⟩,ed (aa HK).bel _ (by omega) _⟩
end Go.Proofs.YtlmnjbipfacniaaGreatDoor
