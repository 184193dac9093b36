/- The document's SameExpr: two expressions that differ in wher -/
import Derived.Test.YtlmnjbipfacniaaGreatDoorRtSameM
import Derived.Test.YtlmnjbipfacniaaGreatDoorBxBM
import Derived.Test.YtlmnjbipfacniaaGreatDoorStAM
import Derived.Deep.RegionHeld3
import Derived.Test.YtlmnjbipfacniaaGreatDoorLwPlM
import Derived.Test.YtlmnjbipfacniaaGreatDoorSyU0M
import Derived.Test.YtlmnjbipfacniaaGreatDoorRtBare6M
import Derived.Test.YtlmnjbipfacniaaGreatDoorRdLM
set_option maxRecDepth 100000
set_option maxHeartbeats 8000000
namespace Go.Proofs.YtlmnjbipfacniaaGreatDoor
open Go.Proofs.Tryz
open Go.RowKit
theorem Gx {w:World} {z:Nat} {v0 v1 v2 v3 v4:Value} (h:w.heap[z]? =some (.cells #[v0,v1,v2,v3,v4] 24 (0,0))):
  w.cell? ⟨z,0,none⟩=some v0∧w.cell? ⟨z,1,none⟩=some v1∧w.cell? ⟨z,2,none⟩=some v2∧w.cell? ⟨z,3,none⟩=some v3∧w.cell? ⟨z,4,none⟩=some v4:=by
 refine⟨?_, ?_, ?_, ?_, ?_⟩ <;> (rw[eX _ _ _ _ _ _ h];rfl)
theorem DH:∀A B:PT,∀w:World,A.In w→B.In w→A.can=B.can→Calls prog 25 #[pv A,pv B] w fun e w'=>e=.returned (.bool true)∧Below w.heap.size w w':=PT.ind fun A ih B w hA hB h=>by
 obtain⟨e1,e2,e3,e4,e5,e6⟩:=DU h;have HA:=ab hA;have HB:=ab hB;have HL:=ab e5;have IH:=ab (fun j hj=>ih j hj (B.kid j))
 have H6:=ab e6;have jr:=hA.max;unfold maxLen at jr;unfold pv;rw[e1,e2,e3,e4,e5];have aZ:Below w.heap.size w ((w.alloc (.cells #[.int .i64 A.k,.string A.t,.int .i64 A.n,.string A.nm,.slice A.xa A.len A.cap] 24)).alloc (.cells #[.int .i64 A.k,.string A.t,.int .i64 A.n,.string A.nm,.slice B.xa A.len B.cap] 24)):=(ba _).alloc (by simp) _
 have ga:((w.alloc (.cells #[.int .i64 A.k,.string A.t,.int .i64 A.n,.string A.nm,.slice A.xa A.len A.cap] 24)).alloc (.cells #[.int .i64 A.k,.string A.t,.int .i64 A.n,.string A.nm,.slice B.xa A.len B.cap] 24)).heap[w.heap.size]? =some (.cells #[.int .i64 A.k,.string A.t,.int .i64 A.n,.string A.nm,.slice A.xa A.len A.cap] 24 (0,0)):=bL (by simp) (aw rfl)
 have gb:((w.alloc (.cells #[.int .i64 A.k,.string A.t,.int .i64 A.n,.string A.nm,.slice A.xa A.len A.cap] 24)).alloc (.cells #[.int .i64 A.k,.string A.t,.int .i64 A.n,.string A.nm,.slice B.xa A.len B.cap] 24)).heap[w.heap.size+1]? =some (.cells #[.int .i64 A.k,.string A.t,.int .i64 A.n,.string A.nm,.slice B.xa A.len B.cap] 24 (0,0)):=aw (by simp)
 have H0:=ab (And.intro aZ (And.intro ga gb));clear aZ ga gb hA hB h e1 e2 e3 e4 e5 e6 ih;go_enter func25,ntmps25;go_wp2_with fail;generalize ((w.alloc (.cells #[.int .i64 A.k,.string A.t,.int .i64 A.n,.string A.nm,.slice A.xa A.len A.cap] 24)).alloc (.cells #[.int .i64 A.k,.string A.t,.int .i64 A.n,.string A.nm,.slice B.xa A.len B.cap] 24))=W1 at *;go_loopw [44] (fun x wr=>∃k:Nat,k≤A.len∧x=.int .i64 (k:Int)∧Hid (Below W1.heap.size W1 wr)) (fun x _=>A.len - (intOf x).toNat)
 case atStart=>exact⟨0,cU _,rfl,aW _ _⟩
 case round=>
  obtain⟨k,hk,rfl,mq⟩:=hrel;rcases cX k A.len with au | jc
  ·have g1:(k:Int) < (A.len:Int):=by omega
   have HBw:=ab (xm (aa H0).1 (aa mq));have wv:k < B.len:=by rw[aa HL];exact au
   have lm:=mu (aa HA) au;have hib:=mu (aa HB) wv;rw[aa HL] at hib;have bA:=(aa HA).cells au;have hKB:=(aa HB).cells wv;unfold PT.kv at bA hKB;have HC:=ab (fun W (hb:Below w.heap.size w W)=>aa IH k au W (PT.In.later hb ((aa HA).kids au)) (PT.In.later hb ((aa HB).kids wv)) (aa H6 k au))
   generalize A.kid k=P at *;generalize B.kid k=Q at *;unfold pv at HC;have y:=(Gx (am (aa H0).2.1 (aa mq))).2.2.2.2;have z:=(Gx (am (aa H0).2.2 (aa mq))).2.2.2.2;have HK:Hid (∀w',Below wr.heap.size wr w'→(w'.cell? ⟨w.heap.size,4,none⟩=some (.slice A.xa A.len A.cap)∧w'.cell? ⟨w.heap.size+1,4,none⟩=some (.slice B.xa A.len B.cap)∧w'.cell? ⟨A.b,A.o+k * 5,none⟩=some (.int .i64 P.k)∧w'.cell? ⟨A.b,A.o+k * 5+1,none⟩=some (.string P.t)∧w'.cell? ⟨A.b,A.o+k * 5+2,none⟩=some (.int .i64 P.n)∧w'.cell? ⟨A.b,A.o+k * 5+3,none⟩=some (.string P.nm)∧w'.cell? ⟨A.b,A.o+k * 5+4,none⟩=some (.slice P.xa P.len P.cap)∧w'.cell? ⟨B.b,B.o+k * 5,none⟩=some (.int .i64 Q.k)∧w'.cell? ⟨B.b,B.o+k * 5+1,none⟩=some (.string Q.t)∧w'.cell? ⟨B.b,B.o+k * 5+2,none⟩=some (.int .i64 Q.n)∧w'.cell? ⟨B.b,B.o+k * 5+3,none⟩=some (.string Q.nm)∧w'.cell? ⟨B.b,B.o+k * 5+4,none⟩=some (.slice Q.xa Q.len Q.cap))):=ab (fun w' hB=>by
    have hw:=ap (aa HBw) hB;obtain⟨a0,a1,a2,a3,a4⟩:=bA;obtain⟨b0,b1,b2,b3,b4⟩:=hKB;exact⟨av hB y,av hB z,av hw a0,av hw a1,av hw a2,av hw a3,av hw a4,av hw b0,av hw b1,av hw b2,av hw b3,av hw b4⟩)
   obtain⟨u1,u2,a0,a1,a2,a3,a4,b0,b1,b2,b3,b4⟩:=aa HK wr (aW _ _);clear bA hKB y z;go_wp2_with fail;have hA:Below wr.heap.size wr wr.drew:=(aW _ _).drew;go_region_held3 (fun w'=>w'.cell? ⟨w.heap.size,4,none⟩=some (.slice A.xa A.len A.cap)∧w'.cell? ⟨w.heap.size+1,4,none⟩=some (.slice B.xa A.len B.cap)∧w'.cell? ⟨A.b,A.o+k * 5,none⟩=some (.int .i64 P.k)∧w'.cell? ⟨A.b,A.o+k * 5+1,none⟩=some (.string P.t)∧w'.cell? ⟨A.b,A.o+k * 5+2,none⟩=some (.int .i64 P.n)∧w'.cell? ⟨A.b,A.o+k * 5+3,none⟩=some (.string P.nm)∧w'.cell? ⟨A.b,A.o+k * 5+4,none⟩=some (.slice P.xa P.len P.cap)∧w'.cell? ⟨B.b,B.o+k * 5,none⟩=some (.int .i64 Q.k)∧w'.cell? ⟨B.b,B.o+k * 5+1,none⟩=some (.string Q.t)∧w'.cell? ⟨B.b,B.o+k * 5+2,none⟩=some (.int .i64 Q.n)∧w'.cell? ⟨B.b,B.o+k * 5+3,none⟩=some (.string Q.nm)∧w'.cell? ⟨B.b,B.o+k * 5+4,none⟩=some (.slice Q.xa Q.len Q.cap))
    ((refine aa HK _ ?_;with_reducible exact hA))
    ((go_at_call 25;(with_reducible refine(aa HC _ (ap (aa HBw) hA)).mono ?_);rintro e w4 ⟨rfl,hb4⟩;have hA:=ap hA hb4;clear hb4))
   all_goals have HZ:=ab (xm (aa mq) hA)
   all_goals clear a0 a1 a2 a3 a4 b0 b1 b2 b3 b4 u1 u2 HK HC lm hib
   all_goals go_wp2_with fail
   all_goals exact⟨⟨k+1,by omega,rfl,HZ⟩,by simp[intOf];omega⟩
  ·obtain rfl:k=A.len:=by omega
   have g1:¬(A.len:Int) < (A.len:Int):=by omega
   go_wp2_with fail;go_ret;exact⟨rfl,xm (aa H0).1 (aa mq)⟩
open Go.RowKit
theorem Ct {w a b:World} (h:Below w.heap.size w a) (k:Below a.heap.size a b):Below w.heap.size w b:=h.trans (k.mono h.size)
theorem CV (N M:NL) (w:World) (hN:N.In w) (hM:M.In w) (h:N.l=M.l):
  Calls prog 27 #[N.v,M.v] w fun e w'=>e=.returned (.bool true)∧Below w.heap.size w w':=by
 obtain⟨xa,gb,ob,cap,l⟩:=N;obtain⟨xb,ga,oa,cbp,m⟩:=M;obtain rfl:l=m:=h;have HN:=ab hN;have HM:=ab hM;have jr:=hN.max;have tA:=hN.cap;have hcbp:=hM.cap;unfold maxLen at jr;have iG:=hN.at_;have hbt:=hM.at_;clear hN hM;simp only at jr tA iG hcbp hbt;unfold NL.v;simp only;obtain⟨n,hn⟩:∃n,n=l.length:=⟨_,rfl⟩;rw[←hn] at tA iG hcbp hbt ⊢;have HL:=ab hn;clear hn;go_enter func27,ntmps27;go_wp2_with fail;go_loopw [13] (fun x wr=>∃k:Nat,k≤n∧x=.int .i64 (k:Int)∧Hid (Below w.heap.size w wr)) (fun x _=>n - (intOf x).toNat)
 case atStart=>exact⟨0,cU _,rfl,aW _ _⟩
 case round=>
  obtain⟨k,hk,rfl,HB⟩:=hrel;rcases cX k n with au | jc
  ·obtain⟨t,ht⟩:∃t,l[k]? =some t:=⟨l[k]'(by have:=aa HL;omega),jH _⟩
   obtain⟨ct,pV⟩:=(aa HN).cell k t ht;obtain⟨cu, -⟩:=(aa HM).cell k t ht;simp only at ct cu;have oJ:=iG (by omega)
   have hxb:=hbt (by omega)
   subst oJ hxb;clear ht pV;have ma:=xd (g:=gb) (o:=ob) (cap:=cap) (i:=k) (n:=n) underlying28 xR au;have hiy:=xd (g:=ga) (o:=oa) (cap:=cbp) (i:=k) (n:=n) underlying28 xR au;have g1:(k:Int) < (n:Int):=by omega
   have HK:Hid (∀w',Below wr.heap.size wr w'→(w'.cell? ⟨gb,ob+k,none⟩=some (.string t)∧w'.cell? ⟨ga,oa+k,none⟩=some (.string t))):=ab (fun w' hB=>⟨av (Ct (aa HB) hB) ct,av (Ct (aa HB) hB) cu⟩)
   clear ct cu;obtain⟨ct,cu⟩:=aa HK wr (aW _ _);go_wp2_with fail;have hA:Below wr.heap.size wr wr.drew:=(aW _ _).drew;go_region_held3 (fun w'=>w'.cell? ⟨gb,ob+k,none⟩=some (.string t)∧w'.cell? ⟨ga,oa+k,none⟩=some (.string t))
    ((refine aa HK _ ?_;with_reducible exact hA))
    (fail)
   have HZ:=ab (Ct (aa HB) hA);clear ct cu HK ma hiy hA;go_wp2_with fail;exact⟨⟨k+1,by omega,rfl,HZ⟩,by simp[intOf];omega⟩
  ·obtain rfl:k=n:=by omega
   have g1:¬(k:Int) < (k:Int):=by omega
   go_wp2_with fail;go_ret;exact⟨rfl,aa HB⟩
open Go.RowKit
theorem Il {S U:SV} (h:S.can=U.can):U.lab=S.lab∧U.k=S.k∧S.tg.can=U.tg.can∧S.va.can=U.va.can∧S.pa.can=U.pa.can∧U.nm=S.nm∧U.en=S.en∧S.ps.l=U.ps.l∧S.ls.l=U.ls.l∧U.al=S.al∧U.ye=S.ye∧U.no=S.no:=by
 unfold SV.can at h;injection h with h1 h2 h3 h4 h5 h6 h7 h8 h9 eD eQ h12
 exact⟨h1.symm,h2.symm,h3,h4,h5,h6.symm,h7.symm,(aJ (fun q:NL=>q.l) h8:(dj S.ps.l).l=(dj U.ps.l).l),(aJ (fun q:NL=>q.l) h9:(dj S.ls.l).l=(dj U.ls.l).l),eD.symm,eQ.symm,h12.symm⟩
theorem Bc (S U:SV) (w:World) (hS:S.In w) (hU:U.In w) (h:S.can=U.can):Calls prog 9 #[S.v,U.v] w fun e w'=>e=.returned (.bool true)∧Below w.heap.size w w':=by
 obtain⟨e0,e1,e2,e3,e4,e5,e6,e7,e8,e9,e10,e11⟩:=Il h;obtain⟨CA,iU⟩:∃C,C=S.cells:=⟨_,rfl⟩;obtain⟨CB,iT⟩:∃C,C=U.cells:=⟨_,rfl⟩;have dc:S.v=.agg CA:=by rw[iU];rfl
 have huv:U.v=.agg CB:=by rw[iT];rfl
 have a0:CA[0]? =some (.string S.lab):=by rw[iU];rfl
 have a1:CA[1]? =some (.int .i64 S.k):=by rw[iU];rfl
 have a17:CA[17]? =some (.string S.nm):=by rw[iU];rfl
 have a18:CA[18]? =some (.string S.en):=by rw[iU];rfl
 have a21:CA[21]? =some (.string S.al):=by rw[iU];rfl
 have a22:CA[22]? =some (.string S.ye):=by rw[iU];rfl
 have a23:CA[23]? =some (.string S.no):=by rw[iU];rfl
 have a2:CA[2]? =some (.int .i64 S.tg.k):=by rw[iU];rfl
 have a3:CA[3]? =some (.string S.tg.t):=by rw[iU];rfl
 have a4:CA[4]? =some (.int .i64 S.tg.n):=by rw[iU];rfl
 have a5:CA[5]? =some (.string S.tg.nm):=by rw[iU];rfl
 have a6:CA[6]? =some (.slice S.tg.xa S.tg.len S.tg.cap):=by rw[iU];rfl
 have a7:CA[7]? =some (.int .i64 S.va.k):=by rw[iU];rfl
 have a8:CA[8]? =some (.string S.va.t):=by rw[iU];rfl
 have a9:CA[9]? =some (.int .i64 S.va.n):=by rw[iU];rfl
 have a10:CA[10]? =some (.string S.va.nm):=by rw[iU];rfl
 have a11:CA[11]? =some (.slice S.va.xa S.va.len S.va.cap):=by rw[iU];rfl
 have a12:CA[12]? =some (.int .i64 S.pa.k):=by rw[iU];rfl
 have a13:CA[13]? =some (.string S.pa.t):=by rw[iU];rfl
 have a14:CA[14]? =some (.int .i64 S.pa.n):=by rw[iU];rfl
 have a15:CA[15]? =some (.string S.pa.nm):=by rw[iU];rfl
 have a16:CA[16]? =some (.slice S.pa.xa S.pa.len S.pa.cap):=by rw[iU];rfl
 have a19:CA[19]? =some (S.ps.v):=by rw[iU];rfl
 have a20:CA[20]? =some (S.ls.v):=by rw[iU];rfl
 have b0:CB[0]? =some (.string S.lab):=by rw[iT,←e0];rfl
 have b1:CB[1]? =some (.int .i64 S.k):=by rw[iT,←e1];rfl
 have b17:CB[17]? =some (.string S.nm):=by rw[iT,←e5];rfl
 have b18:CB[18]? =some (.string S.en):=by rw[iT,←e6];rfl
 have b21:CB[21]? =some (.string S.al):=by rw[iT,←e9];rfl
 have b22:CB[22]? =some (.string S.ye):=by rw[iT,←e10];rfl
 have b23:CB[23]? =some (.string S.no):=by rw[iT,←e11];rfl
 have b2:CB[2]? =some (.int .i64 U.tg.k):=by rw[iT];rfl
 have b3:CB[3]? =some (.string U.tg.t):=by rw[iT];rfl
 have b4:CB[4]? =some (.int .i64 U.tg.n):=by rw[iT];rfl
 have b5:CB[5]? =some (.string U.tg.nm):=by rw[iT];rfl
 have b6:CB[6]? =some (.slice U.tg.xa U.tg.len U.tg.cap):=by rw[iT];rfl
 have b7:CB[7]? =some (.int .i64 U.va.k):=by rw[iT];rfl
 have b8:CB[8]? =some (.string U.va.t):=by rw[iT];rfl
 have b9:CB[9]? =some (.int .i64 U.va.n):=by rw[iT];rfl
 have b10:CB[10]? =some (.string U.va.nm):=by rw[iT];rfl
 have b11:CB[11]? =some (.slice U.va.xa U.va.len U.va.cap):=by rw[iT];rfl
 have b12:CB[12]? =some (.int .i64 U.pa.k):=by rw[iT];rfl
 have b13:CB[13]? =some (.string U.pa.t):=by rw[iT];rfl
 have b14:CB[14]? =some (.int .i64 U.pa.n):=by rw[iT];rfl
 have b15:CB[15]? =some (.string U.pa.nm):=by rw[iT];rfl
 have b16:CB[16]? =some (.slice U.pa.xa U.pa.len U.pa.cap):=by rw[iT];rfl
 have b19:CB[19]? =some (U.ps.v):=by rw[iT];rfl
 have b20:CB[20]? =some (U.ls.v):=by rw[iT];rfl
 have HE:=ab (And.intro e2 (And.intro e3 (And.intro e4 (And.intro e7 e8))));obtain⟨W,hW⟩:∃W,W=(w.alloc (.cells CA 30)).alloc (.cells CB 30):=⟨_,rfl⟩;have ga:W.heap[w.heap.size]? =some (.cells CA 30 (0,0)):=by rw[hW];exact bL (by simp) (aw rfl)
 have gb:W.heap[w.heap.size+1]? =some (.cells CB 30 (0,0)):=by rw[hW];exact aw (by simp)
 have HB:Hid (Below w.heap.size w W):=ab (by rw[hW];exact(ba _).alloc (by simp) _)
 have Q0:=ab (fun X (h:Below W.heap.size W X)=>show X.cell? ⟨w.heap.size,0,none⟩=some (.string S.lab)∧X.cell? ⟨w.heap.size,1,none⟩=some (.int .i64 S.k)∧X.cell? ⟨w.heap.size,17,none⟩=some (.string S.nm)∧X.cell? ⟨w.heap.size,18,none⟩=some (.string S.en)∧X.cell? ⟨w.heap.size,21,none⟩=some (.string S.al)∧X.cell? ⟨w.heap.size,22,none⟩=some (.string S.ye)∧X.cell? ⟨w.heap.size,23,none⟩=some (.string S.no)∧X.cell? ⟨w.heap.size+1,0,none⟩=some (.string S.lab)∧X.cell? ⟨w.heap.size+1,1,none⟩=some (.int .i64 S.k)∧X.cell? ⟨w.heap.size+1,17,none⟩=some (.string S.nm)∧X.cell? ⟨w.heap.size+1,18,none⟩=some (.string S.en)∧X.cell? ⟨w.heap.size+1,21,none⟩=some (.string S.al)∧X.cell? ⟨w.heap.size+1,22,none⟩=some (.string S.ye)∧X.cell? ⟨w.heap.size+1,23,none⟩=some (.string S.no) from ⟨aY (am ga h) a0,aY (am ga h) a1,aY (am ga h) a17,aY (am ga h) a18,aY (am ga h) a21,aY (am ga h) a22,aY (am ga h) a23,aY (am gb h) b0,aY (am gb h) b1,aY (am gb h) b17,aY (am gb h) b18,aY (am gb h) b21,aY (am gb h) b22,aY (am gb h) b23⟩)
 have Q1:=ab (fun X (h:Below W.heap.size W X)=>show X.cell? ⟨w.heap.size,2,none⟩=some (.int .i64 S.tg.k)∧X.cell? ⟨w.heap.size,3,none⟩=some (.string S.tg.t)∧X.cell? ⟨w.heap.size,4,none⟩=some (.int .i64 S.tg.n)∧X.cell? ⟨w.heap.size,5,none⟩=some (.string S.tg.nm)∧X.cell? ⟨w.heap.size,6,none⟩=some (.slice S.tg.xa S.tg.len S.tg.cap)∧X.cell? ⟨w.heap.size+1,2,none⟩=some (.int .i64 U.tg.k)∧X.cell? ⟨w.heap.size+1,3,none⟩=some (.string U.tg.t)∧X.cell? ⟨w.heap.size+1,4,none⟩=some (.int .i64 U.tg.n)∧X.cell? ⟨w.heap.size+1,5,none⟩=some (.string U.tg.nm)∧X.cell? ⟨w.heap.size+1,6,none⟩=some (.slice U.tg.xa U.tg.len U.tg.cap) from ⟨aY (am ga h) a2,aY (am ga h) a3,aY (am ga h) a4,aY (am ga h) a5,aY (am ga h) a6,aY (am gb h) b2,aY (am gb h) b3,aY (am gb h) b4,aY (am gb h) b5,aY (am gb h) b6⟩)
 have Q2:=ab (fun X (h:Below W.heap.size W X)=>show X.cell? ⟨w.heap.size,7,none⟩=some (.int .i64 S.va.k)∧X.cell? ⟨w.heap.size,8,none⟩=some (.string S.va.t)∧X.cell? ⟨w.heap.size,9,none⟩=some (.int .i64 S.va.n)∧X.cell? ⟨w.heap.size,10,none⟩=some (.string S.va.nm)∧X.cell? ⟨w.heap.size,11,none⟩=some (.slice S.va.xa S.va.len S.va.cap)∧X.cell? ⟨w.heap.size+1,7,none⟩=some (.int .i64 U.va.k)∧X.cell? ⟨w.heap.size+1,8,none⟩=some (.string U.va.t)∧X.cell? ⟨w.heap.size+1,9,none⟩=some (.int .i64 U.va.n)∧X.cell? ⟨w.heap.size+1,10,none⟩=some (.string U.va.nm)∧X.cell? ⟨w.heap.size+1,11,none⟩=some (.slice U.va.xa U.va.len U.va.cap) from ⟨aY (am ga h) a7,aY (am ga h) a8,aY (am ga h) a9,aY (am ga h) a10,aY (am ga h) a11,aY (am gb h) b7,aY (am gb h) b8,aY (am gb h) b9,aY (am gb h) b10,aY (am gb h) b11⟩)
 have Q3:=ab (fun X (h:Below W.heap.size W X)=>show X.cell? ⟨w.heap.size,12,none⟩=some (.int .i64 S.pa.k)∧X.cell? ⟨w.heap.size,13,none⟩=some (.string S.pa.t)∧X.cell? ⟨w.heap.size,14,none⟩=some (.int .i64 S.pa.n)∧X.cell? ⟨w.heap.size,15,none⟩=some (.string S.pa.nm)∧X.cell? ⟨w.heap.size,16,none⟩=some (.slice S.pa.xa S.pa.len S.pa.cap)∧X.cell? ⟨w.heap.size+1,12,none⟩=some (.int .i64 U.pa.k)∧X.cell? ⟨w.heap.size+1,13,none⟩=some (.string U.pa.t)∧X.cell? ⟨w.heap.size+1,14,none⟩=some (.int .i64 U.pa.n)∧X.cell? ⟨w.heap.size+1,15,none⟩=some (.string U.pa.nm)∧X.cell? ⟨w.heap.size+1,16,none⟩=some (.slice U.pa.xa U.pa.len U.pa.cap) from ⟨aY (am ga h) a12,aY (am ga h) a13,aY (am ga h) a14,aY (am ga h) a15,aY (am ga h) a16,aY (am gb h) b12,aY (am gb h) b13,aY (am gb h) b14,aY (am gb h) b15,aY (am gb h) b16⟩)
 have Q4:=ab (fun X (h:Below W.heap.size W X)=>show X.cell? ⟨w.heap.size,19,none⟩=some (S.ps.v)∧X.cell? ⟨w.heap.size+1,19,none⟩=some (U.ps.v) from ⟨aY (am ga h) a19,aY (am gb h) b19⟩)
 have Q5:=ab (fun X (h:Below W.heap.size W X)=>show X.cell? ⟨w.heap.size,20,none⟩=some (S.ls.v)∧X.cell? ⟨w.heap.size+1,20,none⟩=some (U.ls.v) from ⟨aY (am ga h) a20,aY (am gb h) b20⟩)
 have HT:=ab (fun X (h:Below w.heap.size w X)=>DH S.tg U.tg X (PT.In.later h hS.tg) (PT.In.later h hU.tg) (aa HE).1)
 have HV:=ab (fun X (h:Below w.heap.size w X)=>DH S.va U.va X (PT.In.later h hS.va) (PT.In.later h hU.va) (aa HE).2.1)
 have HP:=ab (fun X (h:Below w.heap.size w X)=>K8 S.pa U.pa X (PT.In.later h hS.pa) (PT.In.later h hU.pa) (aa HE).2.2.1)
 have HN:=ab (fun X (h:Below w.heap.size w X)=>CV S.ps U.ps X (hS.ps.later h) (hU.ps.later h) (aa HE).2.2.2.1)
 have HM:=ab (fun X (h:Below w.heap.size w X)=>CV S.ls U.ls X (hS.ls.later h) (hU.ls.later h) (aa HE).2.2.2.2)
 unfold pv at HT HV HP;have HW:=ab hW;rw[dc,huv];clear e0 e1 e2 e3 e4 e5 e6 e7 e8 e9 e10 e11 hS hU h dc huv iU iT ga gb hW HE a0 a1 a17 a18 a21 a22 a23 a2 a3 a4 a5 a6 a7 a8 a9 a10 a11 a12 a13 a14 a15 a16 a19 a20 b0 b1 b17 b18 b21 b22 b23 b2 b3 b4 b5 b6 b7 b8 b9 b10 b11 b12 b13 b14 b15 b16 b19 b20;have aD:=ab (aW W.heap.size W);obtain⟨pT,pS,xa17,xa18,xa21,xa22,xa23,xb0,xb1,xb17,xb18,xb21,xb22,xb23⟩:=aa Q0 W (aW _ _);obtain⟨pR,pQ,pP,xa5,rW,xb2,xb3,xb4,xb5,xb6⟩:=aa Q1 W (aW _ _);rw[aa HW] at pT pS xa17 xa18 xa21 xa22 xa23 pR pQ pP xa5 rW xb0 xb1 xb17 xb18 xb21 xb22 xb23 xb2 xb3 xb4 xb5 xb6;go_enter func9,ntmps9;go_wp2_with fail;rw[show (w.alloc (.cells CA 30)).alloc (.cells CB 30)=W from (aa HW).symm];refine(aa HT W (aa HB)).mono ?_;rintro e w1 ⟨rfl,hb1⟩;have HX:=ab hb1;clear hb1 HT aD pT pS xa17 xa18 xa21 xa22 xa23 pR pQ pP xa5 rW xb0 xb1 xb17 xb18 xb21 xb22 xb23 xb2 xb3 xb4 xb5 xb6;obtain⟨xa7,xa8,xa9,xa10,xa11,xb7,xb8,xb9,xb10,xb11⟩:=aa Q2 w1 (aa HX);go_wp2_with fail;refine(aa HV w1 (ap (aa HB) (aa HX))).mono ?_;rintro e w2 ⟨rfl,hb2⟩;have HY:=ab (ap (aa HX) hb2);clear hb2 HV HX xa7 xa8 xa9 xa10 xa11 xb7 xb8 xb9 xb10 xb11;obtain⟨xa12,xa13,xa14,xa15,xa16,xb12,xb13,xb14,xb15,xb16⟩:=aa Q3 w2 (aa HY);go_wp2_with fail;refine(aa HP w2 (ap (aa HB) (aa HY))).mono ?_;rintro e w3 ⟨rfl,hb3⟩;have HZ:=ab (ap (aa HY) hb3);clear hb3 HP HY xa12 xa13 xa14 xa15 xa16 xb12 xb13 xb14 xb15 xb16;obtain⟨xa19,xb19⟩:=aa Q4 w3 (aa HZ);go_wp2_with fail;refine(aa HN w3 (ap (aa HB) (aa HZ))).mono ?_;rintro e w4 ⟨rfl,hb4⟩;have tT:=ab (ap (aa HZ) hb4);clear hb4 HN HZ xa19 xb19;obtain⟨xa20,xb20⟩:=aa Q5 w4 (aa tT);go_wp2_with fail;refine(aa HM w4 (ap (aa HB) (aa tT))).mono ?_;rintro e w5 ⟨rfl,hb5⟩;have mh:=ab (ap (aa tT) hb5);clear hb5;go_wp2_with fail;go_ret;exact⟨rfl,ap (aa HB) (aa mh)⟩
open Go.RowKit
theorem JD (S:SV) (t:ByteArray) (w:World) (dx:S.In w) (ht:t.size≤maxLen) (hP:PrW w) (hW:SyW w) (hq:(iy S).2≠0):Calls prog 3 #[S.v,.string t] w fun e w'=>e=.returned (.bool true)∧Below w.heap.size w w':=by
 obtain⟨m,hm⟩:=hP.env.lim;obtain⟨C,hC⟩:∃C,C=S.cells:=⟨_,rfl⟩;have dc:S.v=.agg C:=by rw[hC];rfl
 have vL:Hid (C.size=24):=ab (by rw[hC];rfl)
 have dr:Below w.heap.size w (w.alloc (.cells C 30)):=(aW w.heap.size w).alloc (ax _) _;have HAL:=ab (Dg (w.alloc (.cells C 30)) (hW.later dr) m (av dr hm));have tY:=ab (fun (X:World) (h:Below w.heap.size w X)=>show Calls prog 7 #[.agg C] X fun e w'=>e=.returned (iW S)∧Below X.heap.size X w' from dc▸zh S X (hP.later h) (dx.later h))
 have mo:=ab (fun (s:ByteArray) (hs:s.size≤maxLen) (X:World) (h:Below w.heap.size w X)=>A9 s X hs (hW.later h) m (av h hm))
 have tX:=ab (fun (U:SV) (D:Array Value) (hD:D=U.cells) (X:World) (h:Below w.heap.size w X) (hU:U.In X)=>show Calls prog 7 #[.agg D] X fun e w'=>e=.returned (iW U)∧Below X.heap.size X w' from (show U.v=.agg D by rw[hD];rfl)▸zh U X (hP.later h) hU)
 have HWU:=ab (fun (U:SV) (D:Array Value) (hD:D=U.cells) (X:World) (h:Below w.heap.size w X) (hU:U.In X)=>show Calls prog 11 #[.agg D] X fun e w'=>e=.returned (.int .i64 U.wrong)∧Below X.heap.size X w' from (show U.v=.agg D by rw[hD];rfl)▸Bm U X hU (hW.later h).shx (hW.later h).sh)
 have HTS:=ab ht;have bq:=ab (aw (w:=w) (o:=.cells C 30) rfl);have rj:=ab dr;rw[dc];clear dr dx ht hP hW hm hC dc;go_enter func3,ntmps3;go_wp2_with fail;refine(aa HAL).mono ?_;rintro e w1 ⟨rfl,hb1⟩;have dy:=ab (ap (aa rj) hb1);have rV:=ab (am (aa bq) hb1);clear hb1 HAL bq;go_wp2_with (first
  | (refine gG rfl 30 _ rfl w.heap.size rfl 30 C (0,0) _ (by with_reducible exact aa rV) underlying30 rfl (cn.trans (by rw[aa vL])) ?_)
  | fail)
 refine(aa tY w1 (aa dy)).mono ?_;rintro e w2 ⟨rfl,hb2⟩;have dY:=ab (ap (aa dy) hb2);have cR:=ab (am (aa rV) hb2);clear hb2 tY dy rV rj;unfold iW;have q1:((iy S).2==0)=false:=bn hq;generalize (iy S).1=sa at *;generalize (iy S).2=se at *;clear hq cR;go_wp2_with fail;refine(aa mo t (aa HTS) w2 (aa dY)).mono ?_;rintro e y1 ⟨hb,tz,tq,gi⟩;have lO:=ab (ap (aa dY) hb)
 cases hRT:mC t with
 | error x=>
  obtain⟨er,a⟩:=x;obtain rfl:=tz er a hRT;have bo:=Gq hRT;have hne2:(er==0)=false:=bn bo;have hne3:(er !=0)=true:=by simp;exact bo
  obtain⟨Z,hZ⟩:∃Z,Z=bh.cells:=⟨_,rfl⟩;have dL:Hid (Z.size=24):=ab (by rw[hZ];rfl)
  have cK:Hid (Z.all (·.oneCell')=true):=ab (by rw[hZ];exact SV.cells_one _)
  rw[show bh.v=.agg Z by rw[hZ];rfl]
  unfold du;clear tz tq gi hRT hZ hb bo;have fq:Hid (((y1.alloc (.cells Z24 30)).alloc (.cells #[.int .i64 0,.int .i64 0] 36)).heap[y1.heap.size]? =some (.cells bh.cells 30 (0,0))):=ab (bL (by simp) (aw rfl))
  have fd:Hid ((((y1.alloc (.cells Z24 30)).alloc (.cells #[.int .i64 0,.int .i64 0] 36)).setRow y1.heap.size Z).heap[y1.heap.size+1]? =some (.cells #[.int .i64 0,.int .i64 0] 36 (0,0))):=ab ((dH _ _ _ _ (by omega)).trans (aw (by simp)))
  obtain⟨Y2,ep⟩:∃W,W=qx y1 Z er (a:Int):=⟨_,rfl⟩;have gN:=ab (uL y1 Z er (a:Int));rw[←ep] at gN;have bi:=ab ep;clear ep;go_upto_region 9 with (first
   | (refine aX rfl 30 _ _ rfl y1.heap.size Z rfl rfl 30 bh.cells (by with_reducible exact aa fq) (cn.trans (by rw[aa dL])) (by rw[aa dL];rfl) (aa cK) ?_)
   | (refine aX rfl 36 _ _ rfl (y1.heap.size+1) #[.int .i64 er,.int .i64 (a:Int)] rfl rfl 36 #[.int .i64 0,.int .i64 0] (by with_reducible exact aa fd) fy rfl (by simp[Value.oneCell']) ?_)
   | fail)
  rw[show ((((y1.alloc (.cells Z24 30)).alloc (.cells #[.int .i64 0,.int .i64 0] 36)).setRow y1.heap.size Z).setRow (y1.heap.size+1) #[.int .i64 er,.int .i64 (a:Int)])=Y2 from (aa bi).symm];clear fq fd bi;obtain⟨gJ, -,iF⟩:=aa gN;obtain⟨f0, -⟩:=jj iF;have HE:=ab (ap (aa lO) gJ);clear gJ iF gN lO;go_wp2_with fail;go_ret;exact⟨rfl,aa HE⟩
 | ok q=>
  cases q with
  | none=>
   obtain rfl:=tq hRT;obtain⟨Z,hZ⟩:∃Z,Z=bh.cells:=⟨_,rfl⟩;have dL:Hid (Z.size=24):=ab (by rw[hZ];rfl)
   have cK:Hid (Z.all (·.oneCell')=true):=ab (by rw[hZ];exact SV.cells_one _)
   rw[show bh.v=.agg Z by rw[hZ];rfl]
   unfold du;clear tz tq gi hRT hZ hb;have fq:Hid (((y1.alloc (.cells Z24 30)).alloc (.cells #[.int .i64 0,.int .i64 0] 36)).heap[y1.heap.size]? =some (.cells bh.cells 30 (0,0))):=ab (bL (by simp) (aw rfl))
   have fd:Hid ((((y1.alloc (.cells Z24 30)).alloc (.cells #[.int .i64 0,.int .i64 0] 36)).setRow y1.heap.size Z).heap[y1.heap.size+1]? =some (.cells #[.int .i64 0,.int .i64 0] 36 (0,0))):=ab ((dH _ _ _ _ (by omega)).trans (aw (by simp)))
   obtain⟨Y2,ep⟩:∃W,W=qx y1 Z 0 0:=⟨_,rfl⟩;have gN:=ab (uL y1 Z 0 0);rw[←ep] at gN;have bi:=ab ep;clear ep;go_upto_region 9 with (first
    | (refine aX rfl 30 _ _ rfl y1.heap.size Z rfl rfl 30 bh.cells (by with_reducible exact aa fq) (cn.trans (by rw[aa dL])) (by rw[aa dL];rfl) (aa cK) ?_)
    | (refine aX rfl 36 _ _ rfl (y1.heap.size+1) #[.int .i64 0,.int .i64 0] rfl rfl 36 #[.int .i64 0,.int .i64 0] (by with_reducible exact aa fd) fy rfl (by simp[Value.oneCell']) ?_)
    | fail)
   rw[show ((((y1.alloc (.cells Z24 30)).alloc (.cells #[.int .i64 0,.int .i64 0] 36)).setRow y1.heap.size Z).setRow (y1.heap.size+1) #[.int .i64 0,.int .i64 0])=Y2 from (aa bi).symm];clear fq fd bi;obtain⟨gJ, -,iF⟩:=aa gN;obtain⟨f0, -⟩:=jj iF;have HE:=ab (ap (aa lO) gJ);clear gJ iF gN lO;go_wp2_with fail;go_ret;exact⟨rfl,aa HE⟩
  | some P=>
   obtain⟨U,rfl,hU,hL⟩:=gi P hRT;obtain⟨eZ,fN⟩:=Fh hRT hU;have mg:=ab eZ;have lS:=ab (fN.trans hU.symm);have HLU:=ab hL;obtain⟨D,hD⟩:∃D,D=U.cells:=⟨_,rfl⟩;have dL:Hid (D.size=24):=ab (by rw[hD];rfl)
   have cK:Hid (D.all (·.oneCell')=true):=ab (by rw[hD];exact SV.cells_one _)
   have HD:=ab hD;have HUI:=ab hL.here;rw[show U.v=.agg D by rw[hD];rfl]
   unfold du;clear tz tq gi hRT hD hb hU hL eZ fN;have fq:Hid (((y1.alloc (.cells Z24 30)).alloc (.cells #[.int .i64 0,.int .i64 0] 36)).heap[y1.heap.size]? =some (.cells bh.cells 30 (0,0))):=ab (bL (by simp) (aw rfl))
   have fd:Hid ((((y1.alloc (.cells Z24 30)).alloc (.cells #[.int .i64 0,.int .i64 0] 36)).setRow y1.heap.size D).heap[y1.heap.size+1]? =some (.cells #[.int .i64 0,.int .i64 0] 36 (0,0))):=ab ((dH _ _ _ _ (by omega)).trans (aw (by simp)))
   obtain⟨Y2,ep⟩:∃W,W=qx y1 D 0 0:=⟨_,rfl⟩;have gN:=ab (uL y1 D 0 0);rw[←ep] at gN;have bi:=ab ep;clear ep;go_upto_region 9 with (first
    | (refine aX rfl 30 _ _ rfl y1.heap.size D rfl rfl 30 bh.cells (by with_reducible exact aa fq) (cn.trans (by rw[aa dL])) (by rw[aa dL];rfl) (aa cK) ?_)
    | (refine aX rfl 36 _ _ rfl (y1.heap.size+1) #[.int .i64 0,.int .i64 0] rfl rfl 36 #[.int .i64 0,.int .i64 0] (by with_reducible exact aa fd) fy rfl (by simp[Value.oneCell']) ?_)
    | fail)
   rw[show ((((y1.alloc (.cells Z24 30)).alloc (.cells #[.int .i64 0,.int .i64 0] 36)).setRow y1.heap.size D).setRow (y1.heap.size+1) #[.int .i64 0,.int .i64 0])=Y2 from (aa bi).symm];clear fq fd bi;obtain⟨gJ,lj,iF⟩:=aa gN;obtain⟨f0, -⟩:=jj iF;have wC:=ab ((aa HUI).later gJ);have tQ:=ab (ap (aa lO) gJ);have aS:=ab gJ;have fo:=ab lj;have ow:=ab iF;clear gJ lj iF gN HUI;go_wp2_with (first
    | (refine gG rfl 30 _ rfl y1.heap.size rfl 30 D (0,0) _ (by with_reducible exact aa fo) underlying30 rfl (cn.trans (by rw[aa dL])) ?_)
    | fail)
   refine(aa HWU U D (aa HD) Y2 (aa tQ) (aa wC)).mono ?_;rintro e y3 ⟨rfl,hb3⟩;rw[aa mg];have oS:=ab (ap (aa tQ) hb3);have bK:=ab (ap (aa aS) hb3);have HS3:=ab (am (aa fo) hb3);have ph:=ab (am (aa ow) hb3);have wB:=ab ((aa wC).later hb3);clear hb3 tQ fo ow wC f0 HWU;go_wp2_with (first
    | (refine gG rfl 30 _ rfl y1.heap.size rfl 30 D (0,0) _ (by with_reducible exact aa HS3) underlying30 rfl (cn.trans (by rw[aa dL])) ?_)
    | fail)
   refine(aa tX U D (aa HD) y3 (aa oS) (aa wB)).mono ?_;rintro e y4 ⟨rfl,hb4⟩;have qZ:=ab (ap (aa oS) hb4);have dJ:=ab (ap (aa bK) hb4);have HS4:=ab (am (aa HS3) hb4);have ub:=ab (am (aa ph) hb4);have yW:=ab ((aa wB).later hb4);clear hb4 oS HS3 ph wB tX;unfold iW
   by_cases hp:(iy U).2=0
   ·obtain⟨-,ay,hln⟩:=zU (aa yW) hp
    have HZ:=ab (And.intro ay hln);rw[hp];generalize (iy U).1=ta at *;clear hp ay hln;go_wp2_with fail;refine(aa mo ta (aa HZ).1 y4 (aa qZ)).mono ?_;rintro e y5 ⟨hb5, -, -,gi⟩;obtain⟨V,rfl,hV,hL⟩:=gi _ (aa HZ).2;have qY:=ab (ap (aa qZ) hb5);have eq:=ab (ap (aa dJ) hb5);have j3:=ab hL;have ii:Hid (y1.heap.size+1 < y4.heap.size):=ab ((bC.1 (aa ub)).1);have HS5:=ab (am (aa HS4) hb5);have HF5:=ab (am (aa ub) hb5);have jf:Hid (U.can=V.can):=ab (by rw[hV];exact(aa lS).symm)
    obtain⟨E,hE⟩:∃E,E=V.cells:=⟨_,rfl⟩;have wG:Hid (E.size=24):=ab (by rw[hE];rfl)
    have jg:Hid (E.all (·.oneCell')=true):=ab (by rw[hE];exact SV.cells_one _)
    have uc:=ab hE;have dR:Hid (y1.heap.size+1 < y5.heap.size):=ab ((bC.1 (aa HF5)).1);rw[show V.v=.agg E by rw[hE];rfl]
    unfold du;clear gi hV hL hE hb5 HS4 ub qZ yW HZ mo lS;have HN5:Hid ((y5.alloc (.cells Z24 30)).heap[y5.heap.size]? =some (.cells bh.cells 30 (0,0))):=ab (aw rfl);have jO:Hid (((y5.alloc (.cells Z24 30)).setRow y5.heap.size E).heap[y1.heap.size+1]? =some (.cells #[.int .i64 0,.int .i64 0] 36 (0,0))):=ab (by
     have hl:=aa dR;exact(dH _ _ _ _ (by omega)).trans (bL (by omega) (aa HF5)))
    obtain⟨Y6,me⟩:∃Y6,Y6=((y5.alloc (.cells Z24 30)).setRow y5.heap.size E).setRow (y1.heap.size+1) #[.int .i64 0,.int .i64 0]:=⟨_,rfl⟩;have hl:=aa dR;have kL:w.heap.size≤y1.heap.size:=(aa lO).size;have HF6:Hid (Y6.heap[y1.heap.size+1]? =some (.cells #[.int .i64 0,.int .i64 0] 36 (0,0))):=ab (by rw[me];exact cm _ _ _ _ _ _ (aa jO))
    have HE6:Hid (Y6.heap[y5.heap.size]? =some (.cells E 30 (0,0))):=ab (by rw[me];exact(dH _ _ _ _ (by omega)).trans (cm _ _ _ _ _ _ (aa HN5)))
    have dQ:Hid (Y6.heap[y1.heap.size]? =some (.cells D 30 (0,0))):=ab (by rw[me];exact(dH _ _ _ _ (by omega)).trans ((dH _ _ _ _ (by omega)).trans (bL (by omega) (aa HS5))))
    have HY6:Hid (Below w.heap.size w Y6):=ab (by rw[me];exact eL (eL ((aa qY).alloc (aa qY).size _) _ (by omega) _) _ (by omega) _)
    have CS:=ab (fun (hUI:U.In Y6) (hVI:V.In Y6)=>show Calls prog 9 #[.agg D,.agg E] Y6 fun e w'=>e=.returned (.bool true)∧Below Y6.heap.size Y6 w' from (show U.v=.agg D by rw[aa HD];rfl)▸(show V.v=.agg E by rw[aa uc];rfl)▸Bc U V Y6 hUI hVI (aa jf))
    have y6:Hid (U.In Y6∧V.In Y6):=ab (by
     have hz:Y6.heap.size=y5.heap.size+1:=by rw[me];simp
     have ho:∀i,i < y5.heap.size→i≠y1.heap.size+1→Y6.heap[i]? =y5.heap[i]? :=fun i h1 h2=>by
      rw[me];exact(dH _ _ _ _ h2).trans ((dH _ _ _ _ (by omega)).trans (Below.heap_alloc _ _ _ h1))
     have hs5:=(aa eq).size;have hl4:=aa ii;exact⟨((aa HLU).step (by omega) fun i _ h2=>(ho i (by omega) (by omega)).trans ((aa eq).block i h2)).here,((aa j3).step (by omega) fun i h1 h2=>ho i h2 (by omega)).here⟩)
    have HWY:=ab me;clear me hl kL;go_upto_region 17 with (first
     | (refine aX rfl 30 _ _ rfl y5.heap.size E rfl rfl 30 bh.cells (by with_reducible exact aa HN5) (cn.trans (by rw[aa wG])) (by rw[aa wG];rfl) (aa jg) ?_)
     | (refine aX rfl 36 _ _ rfl (y1.heap.size+1) #[.int .i64 0,.int .i64 0] rfl rfl 36 #[.int .i64 0,.int .i64 0] (by with_reducible exact aa jO) fy rfl (by simp[Value.oneCell']) ?_)
     | fail)
    rw[show ((y5.alloc (.cells Z24 30)).setRow y5.heap.size E).setRow (y1.heap.size+1) #[.int .i64 0,.int .i64 0]=Y6 from (aa HWY).symm];obtain⟨f0, -⟩:=jj (aa HF6);clear HN5 jO HWY HS5 HF5 qY eq HLU j3 ii;go_wp2_with (first
     | (refine y9 (by rfl) 30 _ rfl y1.heap.size rfl 30 D (0,0) _ (by with_reducible exact aa dQ) underlying30 rfl (cn.trans (by rw[aa dL])) ?_)
     | (refine y9 (by rfl) 30 _ rfl y5.heap.size rfl 30 E (0,0) _ (by with_reducible exact aa HE6) underlying30 rfl (cn.trans (by rw[aa wG])) ?_)
     | fail)
    refine(aa CS (aa y6).1 (aa y6).2).mono ?_;rintro e y7 ⟨rfl,hb7⟩;have HY7:=ab (ap (aa HY6) hb7);clear hb7;go_wp2_with fail;go_ret;exact⟨rfl,aa HY7⟩
   ·rcases (EY (S:=U) (aa mg)).resolve_left hp with h | h
    ·rw[h]
     clear h hp mg;go_wp2_with fail;go_ret;exact⟨rfl,aa qZ⟩
    ·rw[h]
     clear h hp mg;go_wp2_with fail;go_ret;exact⟨rfl,aa qZ⟩
end Go.Proofs.YtlmnjbipfacniaaGreatDoor
