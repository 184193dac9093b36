/- The document's BareExpr: what its loop keeps. The document's -/
import Derived.Test.YtlmnjbipfacniaaGreatDoorJoinLibMs
import Derived.Test.YtlmnjbipfacniaaGreatDoorWrDMs
import Derived.Test.YtlmnjbipfacniaaGreatDoorSyNMs
import Derived.Test.YtlmnjbipfacniaaGreatDoorSyIMs
import Derived.Test.YtlmnjbipfacniaaGreatDoorSyUMs
import Derived.Test.YtlmnjbipfacniaaGreatDoorSySMs
import Derived.Test.YtlmnjbipfacniaaGreatDoorCellKMs
set_option maxRecDepth 100000
set_option maxHeartbeats 8000000
namespace Go.Proofs.YtlmnjbipfacniaaGreatDoor
open Go.Proofs.Tryz
open Go.RowKit
theorem oI {B k:Nat} {w w':World} {v:Value} {L:List PT} {x:Obj} (hr:bP w B 24 5 eH v L) (hg:w.grownBy w' v.ownBlock) (hk:w.heap[k]? =some x) (hb:k < B):w'.heap[k]? =some x:=
 (hg.block k (bC.1 hk).1 fun e=>by have:=(hr.low e.symm).1;omega).trans hk
theorem wU (k:Int):bE k≤8:=by
 unfold bE
 by_cases h1:k=6
 ·rw[af h1];omega
 ·rw[ac h1];split
  ·omega
  ·split <;> omega
structure XBre (w:World) (T:PT) (t:ByteArray) (n:Int) (nm:ByteArray) (wr:World) (v:Value) (i:Nat) (L:List PT):Prop where
 inn:wr.heap[w.heap.size]? =some (.cells (ai T) 24 (0,0))
 box:wr.heap[w.heap.size+1]? =some (.cells aB 24 (0,0))
 out:wr.heap[w.heap.size+1+1]? =some (.cells #[.int .i64 T.k,.string t,.int .i64 n,.string nm,v] 24 (0,0))
 bel:Below w.heap.size w wr
 kids:KidsX (w.heap.size+1+1+1) wr v L ((T.lst.take i).map PT.bex)
theorem XBre.lt {w:World} {T:PT} {t:ByteArray} {n:Int} {nm:ByteArray} {wr:World} {v:Value} {i:Nat} {L:List PT} (h:XBre w T t n nm wr v i L):w.heap.size+1+1 < wr.heap.size:=(bC.1 h.out).1
theorem XBre.len {w:World} {T:PT} {t:ByteArray} {n:Int} {nm:ByteArray} {wr:World} {v:Value} {i:Nat} {L:List PT} (h:XBre w T t n nm wr v i L) (hi:i≤T.len):L.length=i:=by
 have:=aD List.length h.kids.can;rw[oT,oT,List.length_take,PT.lst_len] at this;omega
theorem XBre.put {w:World} {T:PT} {t:ByteArray} {n:Int} {nm:ByteArray} {wr w3 w4 w6:World} {v v':Value} {i:Nat} {L:List PT} {U:PT} (h:XBre w T t n nm wr v i L) (hi:i < T.len) (hb3:Below wr.heap.size wr w3) (hb:Below w3.heap.size w3 w4) (hU:U.can=(T.kid i).bex) (hL:bf w3.heap.size w4 U)
  (aS:bP w6 (w.heap.size+1+1+1) 24 5 eH v' (L++[U])) (hg:(w4.alloc (.cells (ai U) 24)).grownBy w6 v.ownBlock) (hn:v'.ownBlock=v.ownBlock∨v'.ownBlock=some (w4.alloc (.cells (ai U) 24)).heap.size):
  XBre w T t n nm (w6.setCell ⟨w.heap.size+1+1,4,none⟩ v') v' (i+1) (L++[U]):=by
 have hk3:KidsX (w.heap.size+1+1+1) w3 v L ((T.lst.take i).map PT.bex):=h.kids.below hb3;have hb5:Below w4.heap.size w4 (w4.alloc (.cells (ai U) 24)):=ba _;have gX:Below w3.heap.size w3 (w4.alloc (.cells (ai U) 24)):=aq hb hb5;have eR:bP (w4.alloc (.cells (ai U) 24)) (w.heap.size+1+1+1) 24 5 eH v L:=hk3.row.later gX;have au:=h.lt;have old:∀k x,k < w.heap.size+1+1+1→wr.heap[k]? =some x→w6.heap[k]? =some x:=fun k x hk hx=>oI eR hg (an (an hx hb3) gX) hk
 have hk6:KidsX (w.heap.size+1+1+1) w6 v' (L++[U]) ((T.lst.take i).map PT.bex++[U.can]):=(hk3.below hb).snoc (w:=w3) (by have:=hb3.size;omega) (fun k hk=>(hk3.row.low hk).2) hL aS hg hn
 have o6:=old _ _ (by omega) h.out
 have hlt6:w.heap.size+1+1 < w6.heap.size:=(bC.1 o6).1;refine⟨(dh w6 ⟨w.heap.size+1+1,4,none⟩ _ _ (by show w.heap.size≠w.heap.size+1+1;omega)).trans (old _ _ (by omega) h.inn),(dh w6 ⟨w.heap.size+1+1,4,none⟩ _ _ (by show w.heap.size+1≠w.heap.size+1+1;omega)).trans (old _ _ (by omega) h.box),fB w6 (w.heap.size+1+1) 4 _ _ v' o6, ?_, ?_⟩
 ·refine lz ?_ (by omega) _ _
  have cw:Below w.heap.size w (w4.alloc (.cells (ai U) 24)):=aq (aq h.bel hb3) gX;exact⟨hg.os.trans cw.os,hg.tape.trans cw.tape,hg.output.trans cw.output,bv cw.size hg.size,fun k hk=>(hg.block k (gL hk cw.size) fun e=>by have:=(eR.low e.symm).1;omega).trans (cw.block k hk)⟩
 ·have e:(T.lst.take (i+1)).map PT.bex=(T.lst.take i).map PT.bex++[U.can]:=by
   rw[xB,PT.lst_at hi,oU,hU];rfl
  rw[e];exact hk6.but ((But.refl (w.heap.size+1+1) w6).setCell 4 v') (by show w.heap.size+1+1 < w.heap.size+1+1+1;omega)
theorem XBre.fin {w:World} {T:PT} {t:ByteArray} {n:Int} {nm:ByteArray} {wr:World} {v:Value} {L:List PT} (h:XBre w T t n nm wr v T.len L) (hT:T.In w) (aA:T.badX=0) (ht:t=if T.k=1 then T.t else ByteArray.empty) (hn:n=if T.k=2 then T.n else 0) (hm:nm=if ck T.k=true then T.nm else ByteArray.empty):
  ∃U:PT,ai U= #[.int .i64 T.k,.string t,.int .i64 n,.string nm,v]∧U.can=T.bex∧bf (w.heap.size+1+1+1) wr U:=by
 obtain⟨he,hk⟩:=iK aA;obtain⟨⟨k1,tF⟩,rt,rn,rm,eN,jz⟩:=oK he;have gM:(T.lst.take T.len)=T.lst:=Aq (by rw[PT.lst_len];exact aw _)
 have hK:=h.kids;rw[gM] at hK;have tr:t.size≤65536:=by
  rw[ht];split
  ·rename_i q;exact rt q
  ·decide
 have uT:nm.size≤65536:=by
  rw[hm];split
  ·rename_i q;have:=mq (rm q);omega
  ·decide
 have j7:0≤n∧n≤9223372036854775807:=by
  rw[hn];split
  ·rename_i q;exact⟨rn q,hT.num.2⟩
  ·decide
 by_cases h0:T.k=1∨T.k=2
 ·have hz:T.len=0:=by
   have:bE T.k=0:=by unfold bE;rw[ac (by omega),ac (by omega),ac (by omega)]
   omega
  have hl:=h.len (aw _);have hL:L=[]:=kG (by omega)
  subst hL;have hv:v=.slice none 0 0∨∃g cap,v=.slice (some ⟨g,0,none⟩) 0 cap∧0≤cap∧cap≤maxLen:=by
   rcases h.kids.row.2 with ⟨hv,_⟩ | ⟨g,cap,cur,hv,_,_,_,hm,_⟩
   ·exact .inl hv
   ·exact .inr ⟨g,cap,hv,cU _,hm⟩
  have lh:T.bex=aP T.k t n nm []:=by rw[T.bex_eq,rP hz,←ht,←hn,←hm];rfl
  rcases hv with rfl | ⟨g,cap,rfl, -, -⟩
  ·exact⟨aP T.k t n nm [],rfl,by rw[pL,lh],AU (by omega) j7 tr uT⟩
  ·refine⟨⟨T.k,t,n,nm,some ⟨g,0,none⟩,g,0,0,cap,fun i=>i.elim0⟩,rfl, ?_,fun X _=>⟨by constructor <;> omega,by unfold maxLen;omega,by constructor <;> omega,by unfold maxLen;omega,by unfold maxLen;decide,cU _,fun h=>absurd h (wu _),fun i=>i.elim0⟩⟩
   rw[lh,PT.can_eq];rfl
 ·rw[ac (by omega)] at ht
  rw[ac (by omega)] at hn
  subst ht hn;obtain⟨U,⟨-,hU⟩,hc,hl⟩:=xN (k:=T.k) (nm:=nm) hK ⟨by omega,by omega⟩ uT
  exact⟨U,hU,by rw[hc,T.bex_eq,ac (by omega),ac (by omega),←hm],hl⟩
def oM (T:PT):Prop:=∀w:World,T.In w→T.badX=0→Calls prog 28 #[pv T] w fun e w'=>(∃U:PT,e=.returned (pv U)∧U.can=T.bex∧bf w.heap.size w' U)∧Below w.heap.size w w'
open Go.RowKit
structure BS (w W:World) (S U:SV):Prop where
 box:W.heap[w.heap.size]? =some (.cells S.cells 30 (0,0))
 res:W.heap[w.heap.size+1]? =some (.cells cc.cells 30 (0,0))
 out:W.heap[w.heap.size+1+1]? =some (.cells U.cells 30 (0,0))
 bel:Below w.heap.size w W
 sin:S.In w
 uin:∀X,Below w.heap.size w X→(∀i,w.heap.size+1+1+1≤i→i < W.heap.size→X.heap[i]? =W.heap[i]?)→U.In X
section
variable {w W W':World} {S U:SV}
theorem BS.lt (h:BS w W S U):w.heap.size+1+1 < W.heap.size:=(bC.1 h.out).1
theorem BS.below (h:BS w W S U) (hb:Below W.heap.size W W'):BS w W' S U:=
 ⟨an h.box hb,an h.res hb,an h.out hb,aq h.bel hb,h.sin,fun X hX hi=>h.uin X hX fun i h1 h2=>(hi i h1 (gL h2 hb.size)).trans (hb.block i h2)⟩
theorem Dx (w:World):(fA []).In w:=⟨aw _,by show 0≤maxLen;exact cU _,fun h=>absurd h (by decide),fun i t ht=>by simp[fA] at ht⟩
def SV.u0 (S:SV):SV:=⟨S.lab,S.k,PT.nul,PT.nul,PT.nul,ByteArray.empty,ByteArray.empty,fA [],fA [],S.al,S.ye,S.no⟩
theorem u0_in {S:SV} {w:World} (h:S.In w) (X:World):S.u0.In X:=
 ⟨⟨h.txt.1,by show 0≤maxLen;exact cU _,by show 0≤maxLen;exact cU _,h.txt.2.2.2.1,h.txt.2.2.2.2.1,h.txt.2.2.2.2.2⟩,xk X,xk X,xk X,Dx X,Dx X⟩
theorem BS.cell (h:BS w W S U) {i:Nat} {x:Value} (hx:S.cells[i]? =some x):W.cell? ⟨w.heap.size,i,none⟩=some x:=by
 rw[eB _ _ _ _ _ _ h.box];exact hx
theorem BS.put5 (h:BS w W S U) {k:Nat} {T:PT} {U':SV} (hc:U'.cells=(((((U.cells.setIfInBounds k (.int .i64 T.k)).setIfInBounds (k+1) (.string T.t)).setIfInBounds (k+2) (.int .i64 T.n)).setIfInBounds (k+3) (.string T.nm)).setIfInBounds (k+4) (.slice T.xa T.len T.cap)))
  (hu:∀X,U.In X→T.In X→U'.In X) (hT:bf (w.heap.size+1+1+1) W T):BS w (set5 W (w.heap.size+1+1) k T) S U':=by
 refine⟨(lS _ _ _ _ _ (by omega)).trans h.box,(lS _ _ _ _ _ (by omega)).trans h.res,by rw[hc];exact Dn _ _ _ _ h.out, ?_,h.sin,fun X hX hi=> ?_⟩
 ·unfold Go.Proofs.YtlmnjbipfacniaaGreatDoor.set5
  exact lz (lz (lz (lz (lz h.bel (by omega) _ _) (by omega) _ _) (by omega) _ _) (by omega) _ _) (by omega) _ _
 ·have hi':∀i,w.heap.size+1+1+1≤i→i < W.heap.size→X.heap[i]? =W.heap[i]? :=fun i h1 h2=>(hi i h1 (by rw[mU];exact h2)).trans (lS _ _ _ _ _ (by omega))
  exact hu X (h.uin X hX hi') (hT X hi')
theorem BS.va (h:BS w W S U) {T:PT} (hT:bf (w.heap.size+1+1+1) W T):BS w (set5 W (w.heap.size+1+1) 7 T) S {U with va:=T}:=
 h.put5 rfl (fun _ a b=>⟨a.txt,a.tg,b,a.pa,a.ps,a.ls⟩) hT
theorem BS.tg (h:BS w W S U) {T:PT} (hT:bf (w.heap.size+1+1+1) W T):BS w (set5 W (w.heap.size+1+1) 2 T) S {U with tg:=T}:=
 h.put5 rfl (fun _ a b=>⟨a.txt,b,a.va,a.pa,a.ps,a.ls⟩) hT
theorem BS.pa (h:BS w W S U) {T:PT} (hT:bf (w.heap.size+1+1+1) W T):BS w (set5 W (w.heap.size+1+1) 12 T) S {U with pa:=T}:=
 h.put5 rfl (fun _ a b=>⟨a.txt,a.tg,a.va,b,a.ps,a.ls⟩) hT
theorem BS.set1 (h:BS w W S U) {k:Nat} {x:Value} {U':SV} (hc:U'.cells=U.cells.setIfInBounds k x) (hu:∀X,Below w.heap.size w X→U.In X→U'.In X):BS w (W.setCell ⟨w.heap.size+1+1,k,none⟩ x) S U':=by
 have ho:∀i,i≠w.heap.size+1+1→(W.setCell ⟨w.heap.size+1+1,k,none⟩ x).heap[i]? =W.heap[i]? :=fun i hi=>dh W ⟨w.heap.size+1+1,k,none⟩ i x hi
 refine⟨(ho _ (by omega)).trans h.box,(ho _ (by omega)).trans h.res,by rw[hc];exact fB W (w.heap.size+1+1) k _ _ x h.out,lz h.bel (by omega) _ _,h.sin,fun X hX hi=>hu X hX (h.uin X hX fun i h1 h2=>(hi i h1 (by rw[og];exact h2)).trans (ho i (by omega)))⟩
theorem BS.nm (h:BS w W S U):BS w (W.setCell ⟨w.heap.size+1+1,17,none⟩ (.string S.nm)) S {U with nm:=S.nm}:=
 h.set1 rfl fun _ _ a=>⟨⟨a.txt.1,h.sin.txt.2.1,a.txt.2.2⟩,a.tg,a.va,a.pa,a.ps,a.ls⟩
theorem BS.en (h:BS w W S U):BS w (W.setCell ⟨w.heap.size+1+1,18,none⟩ (.string S.en)) S {U with en:=S.en}:=
 h.set1 rfl fun _ _ a=>⟨⟨a.txt.1,a.txt.2.1,h.sin.txt.2.2.1,a.txt.2.2.2⟩,a.tg,a.va,a.pa,a.ps,a.ls⟩
theorem BS.ps (h:BS w W S U):BS w (W.setCell ⟨w.heap.size+1+1,19,none⟩ S.ps.v) S {U with ps:=S.ps}:=
 h.set1 rfl fun _ b a=>⟨a.txt,a.tg,a.va,a.pa,h.sin.ps.later b,a.ls⟩
theorem BS.ls (h:BS w W S U):BS w (W.setCell ⟨w.heap.size+1+1,20,none⟩ S.ls.v) S {U with ls:=S.ls}:=
 h.set1 rfl fun _ b a=>⟨a.txt,a.tg,a.va,a.pa,a.ps,h.sin.ls.later b⟩
def sZ (w:World) (S:SV) (e:Ending) (w':World):Prop:=(∃U:SV,e=.returned U.v∧U.can=S.bst∧U.In w')∧Below w.heap.size w w'
theorem BS.fin (h:BS w W S U) (hc:U.can=S.bst):sZ w S (.returned (.agg U.cells)) (W.setRow (w.heap.size+1) U.cells):=
 ⟨⟨U,rfl,hc,h.uin _ (ed h.bel _ (by omega) _) fun i h1 h2=>eZ _ _ _ _ (by omega)⟩,ed h.bel _ (by omega) _⟩
end
open Go.RowKit
theorem Hh {S U:SV} (h:S.can=U.can):U.lab=S.lab∧U.k=S.k∧S.tg.can=U.tg.can∧S.va.can=U.va.can∧S.pa.can=U.pa.can∧U.nm=S.nm∧U.en=S.en∧S.ps.l=U.ps.l∧S.ls.l=U.ls.l∧U.al=S.al∧U.ye=S.ye∧U.no=S.no:=by
 unfold SV.can at h;injection h with h1 h2 h3 h4 h5 h6 h7 h8 h9 ew eL h12
 exact⟨h1.symm,h2.symm,h3,h4,h5,h6.symm,h7.symm,(aD (fun q:NL=>q.l) h8:(fA S.ps.l).l=(fA U.ps.l).l),(aD (fun q:NL=>q.l) h9:(fA S.ls.l).l=(fA U.ls.l).l),ew.symm,eL.symm,h12.symm⟩
theorem Dp (S U:SV) (w:World) (hS:S.In w) (hU:U.In w) (h:S.can=U.can):Calls prog 9 #[S.v,U.v] w fun e w'=>e=.returned (.bool true)∧Below w.heap.size w w':=by
 obtain⟨e0,e1,e2,e3,e4,e5,e6,e7,e8,e9,e10,e11⟩:=Hh h;obtain⟨CA,iI⟩:∃C,C=S.cells:=⟨_,rfl⟩;obtain⟨CB,iH⟩:∃C,C=U.cells:=⟨_,rfl⟩;have dI:S.v=.agg CA:=by rw[iI];rfl
 have huv:U.v=.agg CB:=by rw[iH];rfl
 have a0:CA[0]? =some (.string S.lab):=by rw[iI];rfl
 have a1:CA[1]? =some (.int .i64 S.k):=by rw[iI];rfl
 have a17:CA[17]? =some (.string S.nm):=by rw[iI];rfl
 have a18:CA[18]? =some (.string S.en):=by rw[iI];rfl
 have a21:CA[21]? =some (.string S.al):=by rw[iI];rfl
 have a22:CA[22]? =some (.string S.ye):=by rw[iI];rfl
 have a23:CA[23]? =some (.string S.no):=by rw[iI];rfl
 have a2:CA[2]? =some (.int .i64 S.tg.k):=by rw[iI];rfl
 have a3:CA[3]? =some (.string S.tg.t):=by rw[iI];rfl
 have a4:CA[4]? =some (.int .i64 S.tg.n):=by rw[iI];rfl
 have a5:CA[5]? =some (.string S.tg.nm):=by rw[iI];rfl
 have a6:CA[6]? =some (.slice S.tg.xa S.tg.len S.tg.cap):=by rw[iI];rfl
 have a7:CA[7]? =some (.int .i64 S.va.k):=by rw[iI];rfl
 have a8:CA[8]? =some (.string S.va.t):=by rw[iI];rfl
 have a9:CA[9]? =some (.int .i64 S.va.n):=by rw[iI];rfl
 have a10:CA[10]? =some (.string S.va.nm):=by rw[iI];rfl
 have a11:CA[11]? =some (.slice S.va.xa S.va.len S.va.cap):=by rw[iI];rfl
 have a12:CA[12]? =some (.int .i64 S.pa.k):=by rw[iI];rfl
 have a13:CA[13]? =some (.string S.pa.t):=by rw[iI];rfl
 have a14:CA[14]? =some (.int .i64 S.pa.n):=by rw[iI];rfl
 have a15:CA[15]? =some (.string S.pa.nm):=by rw[iI];rfl
 have a16:CA[16]? =some (.slice S.pa.xa S.pa.len S.pa.cap):=by rw[iI];rfl
 have a19:CA[19]? =some (S.ps.v):=by rw[iI];rfl
 have a20:CA[20]? =some (S.ls.v):=by rw[iI];rfl
 have b0:CB[0]? =some (.string S.lab):=by rw[iH,←e0];rfl
 have b1:CB[1]? =some (.int .i64 S.k):=by rw[iH,←e1];rfl
 have b17:CB[17]? =some (.string S.nm):=by rw[iH,←e5];rfl
 have b18:CB[18]? =some (.string S.en):=by rw[iH,←e6];rfl
 have b21:CB[21]? =some (.string S.al):=by rw[iH,←e9];rfl
 have b22:CB[22]? =some (.string S.ye):=by rw[iH,←e10];rfl
 have b23:CB[23]? =some (.string S.no):=by rw[iH,←e11];rfl
 have b2:CB[2]? =some (.int .i64 U.tg.k):=by rw[iH];rfl
 have b3:CB[3]? =some (.string U.tg.t):=by rw[iH];rfl
 have b4:CB[4]? =some (.int .i64 U.tg.n):=by rw[iH];rfl
 have b5:CB[5]? =some (.string U.tg.nm):=by rw[iH];rfl
 have b6:CB[6]? =some (.slice U.tg.xa U.tg.len U.tg.cap):=by rw[iH];rfl
 have b7:CB[7]? =some (.int .i64 U.va.k):=by rw[iH];rfl
 have b8:CB[8]? =some (.string U.va.t):=by rw[iH];rfl
 have b9:CB[9]? =some (.int .i64 U.va.n):=by rw[iH];rfl
 have b10:CB[10]? =some (.string U.va.nm):=by rw[iH];rfl
 have b11:CB[11]? =some (.slice U.va.xa U.va.len U.va.cap):=by rw[iH];rfl
 have b12:CB[12]? =some (.int .i64 U.pa.k):=by rw[iH];rfl
 have b13:CB[13]? =some (.string U.pa.t):=by rw[iH];rfl
 have b14:CB[14]? =some (.int .i64 U.pa.n):=by rw[iH];rfl
 have b15:CB[15]? =some (.string U.pa.nm):=by rw[iH];rfl
 have b16:CB[16]? =some (.slice U.pa.xa U.pa.len U.pa.cap):=by rw[iH];rfl
 have b19:CB[19]? =some (U.ps.v):=by rw[iH];rfl
 have b20:CB[20]? =some (U.ls.v):=by rw[iH];rfl
 have HE:=ab (And.intro e2 (And.intro e3 (And.intro e4 (And.intro e7 e8))));obtain⟨W,hW⟩:∃W,W=(w.alloc (.cells CA 30)).alloc (.cells CB 30):=⟨_,rfl⟩;have ga:W.heap[w.heap.size]? =some (.cells CA 30 (0,0)):=by rw[hW];exact ci (by simp) (ax rfl)
 have gb:W.heap[w.heap.size+1]? =some (.cells CB 30 (0,0)):=by rw[hW];exact ax (by simp)
 have HB:Hid (Below w.heap.size w W):=ab (by rw[hW];exact(ba _).alloc (by simp) _)
 have Q0:=ab (fun X (h:Below W.heap.size W X)=>show X.cell? ⟨w.heap.size,0,none⟩=some (.string S.lab)∧X.cell? ⟨w.heap.size,1,none⟩=some (.int .i64 S.k)∧X.cell? ⟨w.heap.size,17,none⟩=some (.string S.nm)∧X.cell? ⟨w.heap.size,18,none⟩=some (.string S.en)∧X.cell? ⟨w.heap.size,21,none⟩=some (.string S.al)∧X.cell? ⟨w.heap.size,22,none⟩=some (.string S.ye)∧X.cell? ⟨w.heap.size,23,none⟩=some (.string S.no)∧X.cell? ⟨w.heap.size+1,0,none⟩=some (.string S.lab)∧X.cell? ⟨w.heap.size+1,1,none⟩=some (.int .i64 S.k)∧X.cell? ⟨w.heap.size+1,17,none⟩=some (.string S.nm)∧X.cell? ⟨w.heap.size+1,18,none⟩=some (.string S.en)∧X.cell? ⟨w.heap.size+1,21,none⟩=some (.string S.al)∧X.cell? ⟨w.heap.size+1,22,none⟩=some (.string S.ye)∧X.cell? ⟨w.heap.size+1,23,none⟩=some (.string S.no) from ⟨aY (an ga h) a0,aY (an ga h) a1,aY (an ga h) a17,aY (an ga h) a18,aY (an ga h) a21,aY (an ga h) a22,aY (an ga h) a23,aY (an gb h) b0,aY (an gb h) b1,aY (an gb h) b17,aY (an gb h) b18,aY (an gb h) b21,aY (an gb h) b22,aY (an gb h) b23⟩)
 have Q1:=ab (fun X (h:Below W.heap.size W X)=>show X.cell? ⟨w.heap.size,2,none⟩=some (.int .i64 S.tg.k)∧X.cell? ⟨w.heap.size,3,none⟩=some (.string S.tg.t)∧X.cell? ⟨w.heap.size,4,none⟩=some (.int .i64 S.tg.n)∧X.cell? ⟨w.heap.size,5,none⟩=some (.string S.tg.nm)∧X.cell? ⟨w.heap.size,6,none⟩=some (.slice S.tg.xa S.tg.len S.tg.cap)∧X.cell? ⟨w.heap.size+1,2,none⟩=some (.int .i64 U.tg.k)∧X.cell? ⟨w.heap.size+1,3,none⟩=some (.string U.tg.t)∧X.cell? ⟨w.heap.size+1,4,none⟩=some (.int .i64 U.tg.n)∧X.cell? ⟨w.heap.size+1,5,none⟩=some (.string U.tg.nm)∧X.cell? ⟨w.heap.size+1,6,none⟩=some (.slice U.tg.xa U.tg.len U.tg.cap) from ⟨aY (an ga h) a2,aY (an ga h) a3,aY (an ga h) a4,aY (an ga h) a5,aY (an ga h) a6,aY (an gb h) b2,aY (an gb h) b3,aY (an gb h) b4,aY (an gb h) b5,aY (an gb h) b6⟩)
 have Q2:=ab (fun X (h:Below W.heap.size W X)=>show X.cell? ⟨w.heap.size,7,none⟩=some (.int .i64 S.va.k)∧X.cell? ⟨w.heap.size,8,none⟩=some (.string S.va.t)∧X.cell? ⟨w.heap.size,9,none⟩=some (.int .i64 S.va.n)∧X.cell? ⟨w.heap.size,10,none⟩=some (.string S.va.nm)∧X.cell? ⟨w.heap.size,11,none⟩=some (.slice S.va.xa S.va.len S.va.cap)∧X.cell? ⟨w.heap.size+1,7,none⟩=some (.int .i64 U.va.k)∧X.cell? ⟨w.heap.size+1,8,none⟩=some (.string U.va.t)∧X.cell? ⟨w.heap.size+1,9,none⟩=some (.int .i64 U.va.n)∧X.cell? ⟨w.heap.size+1,10,none⟩=some (.string U.va.nm)∧X.cell? ⟨w.heap.size+1,11,none⟩=some (.slice U.va.xa U.va.len U.va.cap) from ⟨aY (an ga h) a7,aY (an ga h) a8,aY (an ga h) a9,aY (an ga h) a10,aY (an ga h) a11,aY (an gb h) b7,aY (an gb h) b8,aY (an gb h) b9,aY (an gb h) b10,aY (an gb h) b11⟩)
 have Q3:=ab (fun X (h:Below W.heap.size W X)=>show X.cell? ⟨w.heap.size,12,none⟩=some (.int .i64 S.pa.k)∧X.cell? ⟨w.heap.size,13,none⟩=some (.string S.pa.t)∧X.cell? ⟨w.heap.size,14,none⟩=some (.int .i64 S.pa.n)∧X.cell? ⟨w.heap.size,15,none⟩=some (.string S.pa.nm)∧X.cell? ⟨w.heap.size,16,none⟩=some (.slice S.pa.xa S.pa.len S.pa.cap)∧X.cell? ⟨w.heap.size+1,12,none⟩=some (.int .i64 U.pa.k)∧X.cell? ⟨w.heap.size+1,13,none⟩=some (.string U.pa.t)∧X.cell? ⟨w.heap.size+1,14,none⟩=some (.int .i64 U.pa.n)∧X.cell? ⟨w.heap.size+1,15,none⟩=some (.string U.pa.nm)∧X.cell? ⟨w.heap.size+1,16,none⟩=some (.slice U.pa.xa U.pa.len U.pa.cap) from ⟨aY (an ga h) a12,aY (an ga h) a13,aY (an ga h) a14,aY (an ga h) a15,aY (an ga h) a16,aY (an gb h) b12,aY (an gb h) b13,aY (an gb h) b14,aY (an gb h) b15,aY (an gb h) b16⟩)
 have Q4:=ab (fun X (h:Below W.heap.size W X)=>show X.cell? ⟨w.heap.size,19,none⟩=some (S.ps.v)∧X.cell? ⟨w.heap.size+1,19,none⟩=some (U.ps.v) from ⟨aY (an ga h) a19,aY (an gb h) b19⟩)
 have Q5:=ab (fun X (h:Below W.heap.size W X)=>show X.cell? ⟨w.heap.size,20,none⟩=some (S.ls.v)∧X.cell? ⟨w.heap.size+1,20,none⟩=some (U.ls.v) from ⟨aY (an ga h) a20,aY (an gb h) b20⟩)
 have HT:=ab (fun X (h:Below w.heap.size w X)=>Do S.tg U.tg X (PT.In.later h hS.tg) (PT.In.later h hU.tg) (aa HE).1)
 have HV:=ab (fun X (h:Below w.heap.size w X)=>Do S.va U.va X (PT.In.later h hS.va) (PT.In.later h hU.va) (aa HE).2.1)
 have HP:=ab (fun X (h:Below w.heap.size w X)=>KB S.pa U.pa X (PT.In.later h hS.pa) (PT.In.later h hU.pa) (aa HE).2.2.1)
 have HN:=ab (fun X (h:Below w.heap.size w X)=>Cz S.ps U.ps X (hS.ps.later h) (hU.ps.later h) (aa HE).2.2.2.1)
 have HM:=ab (fun X (h:Below w.heap.size w X)=>Cz S.ls U.ls X (hS.ls.later h) (hU.ls.later h) (aa HE).2.2.2.2)
 unfold pv at HT HV HP;have HW:=ab hW;rw[dI,huv];clear e0 e1 e2 e3 e4 e5 e6 e7 e8 e9 e10 e11 hS hU h dI huv iI iH ga gb hW HE a0 a1 a17 a18 a21 a22 a23 a2 a3 a4 a5 a6 a7 a8 a9 a10 a11 a12 a13 a14 a15 a16 a19 a20 b0 b1 b17 b18 b21 b22 b23 b2 b3 b4 b5 b6 b7 b8 b9 b10 b11 b12 b13 b14 b15 b16 b19 b20;have aF:=ab (aV W.heap.size W);obtain⟨qk,qj,xa17,xa18,xa21,xa22,xa23,xb0,xb1,xb17,xb18,xb21,xb22,xb23⟩:=aa Q0 W (aV _ _);obtain⟨qi,qh,qg,xa5,si,xb2,xb3,xb4,xb5,xb6⟩:=aa Q1 W (aV _ _);rw[aa HW] at qk qj xa17 xa18 xa21 xa22 xa23 qi qh qg xa5 si xb0 xb1 xb17 xb18 xb21 xb22 xb23 xb2 xb3 xb4 xb5 xb6;go_enter func9,ntmps9;go_wp2_with fail;rw[show (w.alloc (.cells CA 30)).alloc (.cells CB 30)=W from (aa HW).symm];refine(aa HT W (aa HB)).mono ?_;rintro e w1 ⟨rfl,hb1⟩;have HX:=ab hb1;clear hb1 HT aF qk qj xa17 xa18 xa21 xa22 xa23 qi qh qg xa5 si xb0 xb1 xb17 xb18 xb21 xb22 xb23 xb2 xb3 xb4 xb5 xb6;obtain⟨xa7,xa8,xa9,xa10,xa11,xb7,xb8,xb9,xb10,xb11⟩:=aa Q2 w1 (aa HX);go_wp2_with fail;refine(aa HV w1 (aq (aa HB) (aa HX))).mono ?_;rintro e w2 ⟨rfl,hb2⟩;have HY:=ab (aq (aa HX) hb2);clear hb2 HV HX xa7 xa8 xa9 xa10 xa11 xb7 xb8 xb9 xb10 xb11;obtain⟨xa12,xa13,xa14,xa15,xa16,xb12,xb13,xb14,xb15,xb16⟩:=aa Q3 w2 (aa HY);go_wp2_with fail;refine(aa HP w2 (aq (aa HB) (aa HY))).mono ?_;rintro e w3 ⟨rfl,hb3⟩;have HZ:=ab (aq (aa HY) hb3);clear hb3 HP HY xa12 xa13 xa14 xa15 xa16 xb12 xb13 xb14 xb15 xb16;obtain⟨xa19,xb19⟩:=aa Q4 w3 (aa HZ);go_wp2_with fail;refine(aa HN w3 (aq (aa HB) (aa HZ))).mono ?_;rintro e w4 ⟨rfl,hb4⟩;have tU:=ab (aq (aa HZ) hb4);clear hb4 HN HZ xa19 xb19;obtain⟨xa20,xb20⟩:=aa Q5 w4 (aa tU);go_wp2_with fail;refine(aa HM w4 (aq (aa HB) (aa tU))).mono ?_;rintro e w5 ⟨rfl,hb5⟩;have mh:=ab (aq (aa tU) hb5);clear hb5;go_wp2_with fail;go_ret;exact⟨rfl,aq (aa HB) (aa mh)⟩
end Go.Proofs.YtlmnjbipfacniaaGreatDoor
