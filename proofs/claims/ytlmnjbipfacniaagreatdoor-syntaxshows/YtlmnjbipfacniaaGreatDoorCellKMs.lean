/- The document's SameExpr: two expressions that differ in wher -/
import Derived.Test.YtlmnjbipfacniaaGreatDoorRtSameMs
import Derived.Test.YtlmnjbipfacniaaGreatDoorSyIMs
import Derived.Test.YtlmnjbipfacniaaGreatDoorQuote4Ms
import Derived.Deep.RegionHeld3
import Derived.Test.YtlmnjbipfacniaaGreatDoorPatBaseMs
set_option maxRecDepth 100000
set_option maxHeartbeats 4000000
namespace Go.Proofs.YtlmnjbipfacniaaGreatDoor
open Go.Proofs.Tryz
open Go.RowKit
theorem F6 {w:World} {z:Nat} {v0 v1 v2 v3 v4:Value} (h:w.heap[z]? =some (.cells #[v0,v1,v2,v3,v4] 24 (0,0))):
  w.cell? ⟨z,0,none⟩=some v0∧w.cell? ⟨z,1,none⟩=some v1∧w.cell? ⟨z,2,none⟩=some v2∧w.cell? ⟨z,3,none⟩=some v3∧w.cell? ⟨z,4,none⟩=some v4:=by
 refine⟨?_, ?_, ?_, ?_, ?_⟩ <;> (rw[eB _ _ _ _ _ _ h];rfl)
theorem Do:∀A B:PT,∀w:World,A.In w→B.In w→A.can=B.can→Calls prog 25 #[pv A,pv B] w fun e w'=>e=.returned (.bool true)∧Below w.heap.size w w':=PT.ind fun A ih B w hA hB h=>by
 obtain⟨e1,e2,e3,e4,e5,e6⟩:=DC h;have HA:=ab hA;have HB:=ab hB;have HL:=ab e5;have IH:=ab (fun j hj=>ih j hj (B.kid j))
 have H6:=ab e6;have je:=hA.max;unfold maxLen at je;unfold pv;rw[e1,e2,e3,e4,e5];have bd:Below w.heap.size w ((w.alloc (.cells #[.int .i64 A.k,.string A.t,.int .i64 A.n,.string A.nm,.slice A.xa A.len A.cap] 24)).alloc (.cells #[.int .i64 A.k,.string A.t,.int .i64 A.n,.string A.nm,.slice B.xa A.len B.cap] 24)):=(ba _).alloc (by simp) _
 have ga:((w.alloc (.cells #[.int .i64 A.k,.string A.t,.int .i64 A.n,.string A.nm,.slice A.xa A.len A.cap] 24)).alloc (.cells #[.int .i64 A.k,.string A.t,.int .i64 A.n,.string A.nm,.slice B.xa A.len B.cap] 24)).heap[w.heap.size]? =some (.cells #[.int .i64 A.k,.string A.t,.int .i64 A.n,.string A.nm,.slice A.xa A.len A.cap] 24 (0,0)):=ci (by simp) (ax rfl)
 have gb:((w.alloc (.cells #[.int .i64 A.k,.string A.t,.int .i64 A.n,.string A.nm,.slice A.xa A.len A.cap] 24)).alloc (.cells #[.int .i64 A.k,.string A.t,.int .i64 A.n,.string A.nm,.slice B.xa A.len B.cap] 24)).heap[w.heap.size+1]? =some (.cells #[.int .i64 A.k,.string A.t,.int .i64 A.n,.string A.nm,.slice B.xa A.len B.cap] 24 (0,0)):=ax (by simp)
 have H0:=ab (And.intro bd (And.intro ga gb));clear bd ga gb hA hB h e1 e2 e3 e4 e5 e6 ih;go_enter func25,ntmps25;go_wp2_with fail;generalize ((w.alloc (.cells #[.int .i64 A.k,.string A.t,.int .i64 A.n,.string A.nm,.slice A.xa A.len A.cap] 24)).alloc (.cells #[.int .i64 A.k,.string A.t,.int .i64 A.n,.string A.nm,.slice B.xa A.len B.cap] 24))=W1 at *;go_loopw [44] (fun x wr=>∃k:Nat,k≤A.len∧x=.int .i64 (k:Int)∧Hid (Below W1.heap.size W1 wr)) (fun x _=>A.len - (intOf x).toNat)
 case atStart=>exact⟨0,cU _,rfl,aV _ _⟩
 case round=>
  obtain⟨k,hk,rfl,ks⟩:=hrel;rcases cG k A.len with au | gD
  ·have g1:(k:Int) < (A.len:Int):=by omega
   have HBw:=ab (hJ (aa H0).1 (aa ks));have wA:k < B.len:=by rw[aa HL];exact au
   have lo:=ms (aa HA) au;have hib:=ms (aa HB) wA;rw[aa HL] at hib;have bq:=(aa HA).cells au;have hKB:=(aa HB).cells wA;unfold PT.kv at bq hKB;have HC:=ab (fun W (hb:Below w.heap.size w W)=>aa IH k au W (PT.In.later hb ((aa HA).kids au)) (PT.In.later hb ((aa HB).kids wA)) (aa H6 k au))
   generalize A.kid k=P at *;generalize B.kid k=Q at *;unfold pv at HC;have y:=(F6 (an (aa H0).2.1 (aa ks))).2.2.2.2;have z:=(F6 (an (aa H0).2.2 (aa ks))).2.2.2.2;have HK:Hid (∀w',Below wr.heap.size wr w'→(w'.cell? ⟨w.heap.size,4,none⟩=some (.slice A.xa A.len A.cap)∧w'.cell? ⟨w.heap.size+1,4,none⟩=some (.slice B.xa A.len B.cap)∧w'.cell? ⟨A.b,A.o+k * 5,none⟩=some (.int .i64 P.k)∧w'.cell? ⟨A.b,A.o+k * 5+1,none⟩=some (.string P.t)∧w'.cell? ⟨A.b,A.o+k * 5+2,none⟩=some (.int .i64 P.n)∧w'.cell? ⟨A.b,A.o+k * 5+3,none⟩=some (.string P.nm)∧w'.cell? ⟨A.b,A.o+k * 5+4,none⟩=some (.slice P.xa P.len P.cap)∧w'.cell? ⟨B.b,B.o+k * 5,none⟩=some (.int .i64 Q.k)∧w'.cell? ⟨B.b,B.o+k * 5+1,none⟩=some (.string Q.t)∧w'.cell? ⟨B.b,B.o+k * 5+2,none⟩=some (.int .i64 Q.n)∧w'.cell? ⟨B.b,B.o+k * 5+3,none⟩=some (.string Q.nm)∧w'.cell? ⟨B.b,B.o+k * 5+4,none⟩=some (.slice Q.xa Q.len Q.cap))):=ab (fun w' hB=>by
    have hw:=aq (aa HBw) hB;obtain⟨a0,a1,a2,a3,a4⟩:=bq;obtain⟨b0,b1,b2,b3,b4⟩:=hKB;exact⟨av hB y,av hB z,av hw a0,av hw a1,av hw a2,av hw a3,av hw a4,av hw b0,av hw b1,av hw b2,av hw b3,av hw b4⟩)
   obtain⟨u1,u2,a0,a1,a2,a3,a4,b0,b1,b2,b3,b4⟩:=aa HK wr (aV _ _);clear bq hKB y z;go_wp2_with fail;have hA:Below wr.heap.size wr wr.drew:=(aV _ _).drew;go_region_held3 (fun w'=>w'.cell? ⟨w.heap.size,4,none⟩=some (.slice A.xa A.len A.cap)∧w'.cell? ⟨w.heap.size+1,4,none⟩=some (.slice B.xa A.len B.cap)∧w'.cell? ⟨A.b,A.o+k * 5,none⟩=some (.int .i64 P.k)∧w'.cell? ⟨A.b,A.o+k * 5+1,none⟩=some (.string P.t)∧w'.cell? ⟨A.b,A.o+k * 5+2,none⟩=some (.int .i64 P.n)∧w'.cell? ⟨A.b,A.o+k * 5+3,none⟩=some (.string P.nm)∧w'.cell? ⟨A.b,A.o+k * 5+4,none⟩=some (.slice P.xa P.len P.cap)∧w'.cell? ⟨B.b,B.o+k * 5,none⟩=some (.int .i64 Q.k)∧w'.cell? ⟨B.b,B.o+k * 5+1,none⟩=some (.string Q.t)∧w'.cell? ⟨B.b,B.o+k * 5+2,none⟩=some (.int .i64 Q.n)∧w'.cell? ⟨B.b,B.o+k * 5+3,none⟩=some (.string Q.nm)∧w'.cell? ⟨B.b,B.o+k * 5+4,none⟩=some (.slice Q.xa Q.len Q.cap))
    ((refine aa HK _ ?_;with_reducible exact hA))
    ((go_at_call 25;(with_reducible refine(aa HC _ (aq (aa HBw) hA)).mono ?_);rintro e w4 ⟨rfl,hb4⟩;have hA:=aq hA hb4;clear hb4))
   all_goals have HZ:=ab (hJ (aa ks) hA)
   all_goals clear a0 a1 a2 a3 a4 b0 b1 b2 b3 b4 u1 u2 HK HC lo hib
   all_goals go_wp2_with fail
   all_goals exact⟨⟨k+1,by omega,rfl,HZ⟩,by simp[intOf];omega⟩
  ·obtain rfl:k=A.len:=by omega
   have g1:¬(A.len:Int) < (A.len:Int):=by omega
   go_wp2_with fail;go_ret;exact⟨rfl,hJ (aa H0).1 (aa ks)⟩
open Go.RowKit
theorem Cc {w a b:World} (h:Below w.heap.size w a) (k:Below a.heap.size a b):Below w.heap.size w b:=h.trans (k.mono h.size)
theorem Cz (N M:NL) (w:World) (hN:N.In w) (hM:M.In w) (h:N.l=M.l):
  Calls prog 27 #[N.v,M.v] w fun e w'=>e=.returned (.bool true)∧Below w.heap.size w w':=by
 obtain⟨xa,gb,ob,cap,l⟩:=N;obtain⟨xb,ga,oa,cbp,m⟩:=M;obtain rfl:l=m:=h;have HN:=ab hN;have HM:=ab hM;have je:=hN.max;have tz:=hN.cap;have hcbp:=hM.cap;unfold maxLen at je;have iu:=hN.at_;have hbt:=hM.at_;clear hN hM;simp only at je tz iu hcbp hbt;unfold NL.v;simp only;obtain⟨n,hn⟩:∃n,n=l.length:=⟨_,rfl⟩;rw[←hn] at tz iu hcbp hbt ⊢;have HL:=ab hn;clear hn;go_enter func27,ntmps27;go_wp2_with fail;go_loopw [13] (fun x wr=>∃k:Nat,k≤n∧x=.int .i64 (k:Int)∧Hid (Below w.heap.size w wr)) (fun x _=>n - (intOf x).toNat)
 case atStart=>exact⟨0,cU _,rfl,aV _ _⟩
 case round=>
  obtain⟨k,hk,rfl,HB⟩:=hrel;rcases cG k n with au | gD
  ·obtain⟨t,ht⟩:∃t,l[k]? =some t:=⟨l[k]'(by have:=aa HL;omega),gT _⟩
   obtain⟨ct,oX⟩:=(aa HN).cell k t ht;obtain⟨cu, -⟩:=(aa HM).cell k t ht;simp only at ct cu;have l4:=iu (by omega)
   have hxb:=hbt (by omega)
   subst l4 hxb;clear ht oX;have jA:=wh (g:=gb) (o:=ob) (cap:=cap) (i:=k) (n:=n) underlying28 wO au;have hiy:=wh (g:=ga) (o:=oa) (cap:=cbp) (i:=k) (n:=n) underlying28 wO au;have g1:(k:Int) < (n:Int):=by omega
   have HK:Hid (∀w',Below wr.heap.size wr w'→(w'.cell? ⟨gb,ob+k,none⟩=some (.string t)∧w'.cell? ⟨ga,oa+k,none⟩=some (.string t))):=ab (fun w' hB=>⟨av (Cc (aa HB) hB) ct,av (Cc (aa HB) hB) cu⟩)
   clear ct cu;obtain⟨ct,cu⟩:=aa HK wr (aV _ _);go_wp2_with fail;have hA:Below wr.heap.size wr wr.drew:=(aV _ _).drew;go_region_held3 (fun w'=>w'.cell? ⟨gb,ob+k,none⟩=some (.string t)∧w'.cell? ⟨ga,oa+k,none⟩=some (.string t))
    ((refine aa HK _ ?_;with_reducible exact hA))
    (fail)
   have HZ:=ab (Cc (aa HB) hA);clear ct cu HK jA hiy hA;go_wp2_with fail;exact⟨⟨k+1,by omega,rfl,HZ⟩,by simp[intOf];omega⟩
  ·obtain rfl:k=n:=by omega
   have g1:¬(k:Int) < (k:Int):=by omega
   go_wp2_with fail;go_ret;exact⟨rfl,aa HB⟩
open Go.RowKit
theorem aY {w:World} {g:Nat} {C:Array Value} {t:TypeId} (h:w.heap[g]? =some (.cells C t (0,0))) {k:Nat} {u:Value} (hk:C[k]? =some u):w.cell? ⟨g,k,none⟩=some u:=by rw[eB _ _ _ _ _ _ h];exact hk
end Go.Proofs.YtlmnjbipfacniaaGreatDoor
