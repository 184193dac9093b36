/- The reader of patterns: filled texts, kinds by their words, -/
import Derived.Test.YtlmnjbipfacniaaGreatDoorRdDM
set_option maxRecDepth 100000
set_option maxHeartbeats 4000000
namespace Go.Proofs.YtlmnjbipfacniaaGreatDoor
open Go.Proofs.Tryz
open Go.RowKit
theorem Ju {s:ByteArray} {i z:Nat} {o:Int} (w:World) (hs:s.size≤65536) (hi:i≤s.size) (hR:bR w z s i o):Calls prog 203 #[.pointer (some ⟨z,0,none⟩)] w fun e w'=>fZ lD z s o w (lH s i) e w':=by
 have oO:=eM s i hi;have HN:=ab (sL w hs hi hR);have HQ:=ab (fun w (q:sk s i < s.size) h=>C4 (z:=z) (o:=o) w hs q h)
 unfold lH;clear hR
 by_cases h1:nx s i=39
 ·have au:=kU (s:=s) (i:=i) (by omega)
  rw[af h1];have aS:=ab (fun w h=>aa HQ w au h)
  clear HQ;rw[h1] at HN;clear h1 au;obtain⟨R,hq⟩:∃R,jV s (sk s i)=R:=⟨_,rfl⟩;rw[hq] at aS ⊢;clear hq;generalize sk s i=k at *;rcases R with ⟨er,at'⟩ | ⟨t,j⟩
  ·show Calls _ _ _ _ fun e w'=>fZ lD z s o w (.error (er,at')) e w'
   go_enter func203,ntmps203;go_wp2_with fail;refine(aa HN).mono ?_;rintro e w2 ⟨rfl,hb,db⟩;have HB:=ab hb;have H2:=ab db;have c1:=db.c1;clear hb db;go_wp2_with (refine(aa aS _ (aa H2)).mono ?_;intro e w3 hP;obtain⟨hb3,rfl⟩:=j9 hP rfl;clear hP;have aq:=ab ((aa HB).trans hb3);clear hb3;unfold aC);exact⟨rfl,fQ rfl (aa aq) rfl⟩
  ·by_cases ht:t.size=0
   ·rw[dE,af ht]
    have he:=AX t ht;have HT:=ab (fun w=>wK 8 k w)
    clear ht;go_enter func203,ntmps203;go_wp2_with fail;refine(aa HN).mono ?_;rintro e w2 ⟨rfl,hb,db⟩;have HB:=ab hb;have H2:=ab db;have c1:=db.c1;clear hb db;go_wp2_with fail;refine(aa aS _ (aa H2)).mono ?_;intro e w3 hP;obtain⟨hb3,hv,hR3⟩:=jB hP rfl;unfold lD at hv;subst hv;have aq:=ab ((aa HB).trans hb3);clear hb3 hP hR3 c1;go_wp2_with (refine(aa HT _).mono ?_;rintro e w ⟨rfl,rfl⟩;unfold aC);exact⟨rfl,fQ rfl (aa aq) rfl⟩
   ·rw[dE,ac ht]
    have he:=xI t ht;clear ht;go_enter func203,ntmps203;go_wp2_with fail;refine(aa HN).mono ?_;rintro e w2 ⟨rfl,hb,db⟩;have HB:=ab hb;have H2:=ab db;have c1:=db.c1;clear hb db;go_wp2_with fail;refine(aa aS _ (aa H2)).mono ?_;intro e w3 hP;obtain⟨hb3,hv,hR3⟩:=jB hP rfl;unfold lD at hv;subst hv;have aq:=ab ((aa HB).trans hb3);have H3:=ab hR3;clear hb3 hP hR3 c1;go_wp2_with fail;go_ret;exact lz rfl (aa aq) rfl (aa H3)
 ·rw[ac h1]
  have bo:((nx s i:Int)==39)=false:=bn;clear h1 HQ;generalize sk s i=k at *;generalize nx s i=b at *;go_enter func203,ntmps203;go_wp2_with fail;refine(aa HN).mono ?_;rintro e w2 ⟨rfl,hb,db⟩;have HB:=ab hb;have HS:=ab (uq w2 db);clear hb db;go_wp2_with (refine(aa HS).mono ?_;rintro e w ⟨rfl,rfl⟩;unfold aC);exact⟨rfl,fQ rfl (aa HB) rfl⟩
theorem Fi (t:ByteArray):∀n,jE t n≤n
 | 0=>ax _
 | n+1=>by
  rw[jE];have:=Fi t n;split
  ·omega
  ·split <;> omega
theorem Dq (t:ByteArray) {m:Nat} (h:jE t m≠0):∀n,m≤n→jE t n=jE t m
 | 0,hn=>by rw[show m=0 by omega]
 | n+1,hn=>by
  rcases cX m (n+1) with q | q
  ·have ih:=Dq t h n (by omega)
   rw[jE,ih,af h]
  ·rw[show m=n+1 by omega]
theorem xQ (t:ByteArray) (w:World) (hS:dI w):Calls prog 201 #[.string t] w fun e w'=>e=.returned (.int .i64 (iL t:Int))∧w'=w:=by
 have HS:=ab hS;clear hS;obtain⟨K,hK⟩:∃K,iL t=K:=⟨_,rfl⟩;rw[hK];have HKW:=ab hK;clear hK;obtain⟨f,hf⟩:∃f,f=jE t:=⟨_,rfl⟩;have HF:=ab hf;clear hf;have ir:Hid (f 0=0):=ab (by rw[aa HF];rfl)
 go_enter func201,ntmps201;go_wp2_with fail;go_loop [3] (fun v=>∃n:Nat,n≤24∧v=.int .i64 ((n:Int)+1)∧Hid (f n=0)) (fun v=>25 - (intOf v).toNat)
 case atStart=>exact⟨0,by omega,rfl,aa ir⟩
 case round=>
  obtain⟨n,hn,rfl,HZ⟩:=hrel;rcases cX n 24 with au | jc
  ·have hg:((n:Int)+1)≤24:=by omega
   obtain⟨a, -, -, -⟩:=aa HS (n+1) (by omega) (by omega)
   have HK:Hid (f (n+1)=if aQ (n+1)=t then n+1 else 0):=ab (by rw[aa HF,jE,ac (by rw[←aa HF,aa HZ];simp)])
   have HW:=ab (fun (q:f (n+1)≠0)=>(show K=f (n+1) by rw[←aa HKW,aa HF];rw[aa HF] at q;exact Dq t q 24 (by omega)))
   by_cases hw:aQ (n+1)=t
   ·have eB:Hid (K=n+1):=ab (by
     have h1:f (n+1)=n+1:=by rw[aa HK,af hw]
     rw[aa HW (by rw[h1];omega),h1])
    rw[hw] at a;have he:(t.toList==t.toList)=true:=by simp
    clear hw HK HW;go_wp2_with fail;go_ret;exact⟨by rw[aa eB];rfl,rfl⟩
   ·have eB:Hid (f (n+1)=0):=ab (by rw[aa HK,ac hw])
    have he:((aQ (n+1)).toList==t.toList)=false:=by
     rw[pL];intro e;apply hw;rw[m7,m7] at e;exact ByteArray.ext (Array.toList_inj.1 e)
    clear hw HK HW;generalize aQ (n+1)=W at *;go_wp2_with fail;exact⟨⟨n+1,by omega,by simp,aa eB⟩,by simp[intOf];omega⟩
  ·have HN:Hid (n=24):=ab (by omega)
   have hg:¬((n:Int)+1)≤24:=by omega
   have rj:Hid (K=0):=ab (by rw[←aa HKW,show iL t=jE t 24 from rfl,←aa HF,←aa HN];exact aa HZ)
   go_wp2_with fail;go_ret;exact⟨by rw[aa rj];rfl,rfl⟩
theorem Jt (b:Nat) (w:World):Calls prog 189 #[.int .u8 (b:Int)] w fun e w'=>e=.returned (.int .i64 (iO b:Int))∧w'=w:=by
 unfold iO
 by_cases h1:b=46
 ·subst h1
  rw[af rfl];go_enter func189,ntmps189;go_wp2;go_ret;exact⟨rfl,rfl⟩
 ·rw[ac h1]
  have e1:((b:Int)==46)=false:=bn
  by_cases h2:b=36
  ·subst h2
   rw[af rfl];go_enter func189,ntmps189;go_wp2;go_ret;exact⟨rfl,rfl⟩
  ·rw[ac h2]
   have e2:((b:Int)==36)=false:=bn;clear h1 h2;go_enter func189,ntmps189;go_wp2;go_ret;exact⟨rfl,rfl⟩
theorem Jz (b:Nat) (hb:b < 256) (w:World):Calls prog 184 #[.int .u8 (b:Int)] w fun e w'=>e=.returned (.bool (kg b))∧w'=w:=by
 have HL:=ab (sE b hb w);unfold kg;generalize di b=x at *;have k1:((b:Int)==39)=decide (b=39):=by rw[uX];simp;omega
 have k2:((b:Int)==40)=decide (b=40):=by rw[uX];simp;omega
 have k3:((b:Int)==64)=decide (b=64):=by rw[uX];simp;omega
 have k4:((b:Int)==42)=decide (b=42):=by rw[uX];simp;omega
 cases x
 ·generalize decide (b=39)=d1 at *
  generalize decide (b=40)=d2 at *;generalize decide (b=64)=d3 at *;generalize decide (b=42)=d4 at *
  cases d1 <;> cases d2 <;> cases d3 <;> cases d4 <;> (
   go_enter func184,ntmps184;go_wp2_with (refine(aa HL).mono ?_;rintro e w ⟨rfl,rfl⟩);go_ret;exact⟨rfl,rfl⟩)
 ·go_enter func184,ntmps184
  go_wp2_with (refine(aa HL).mono ?_;rintro e w ⟨rfl,rfl⟩);go_ret;exact⟨rfl,rfl⟩
open Go.RowKit
theorem ej {w:World} {z:Nat} {v0 v1 v2 v3 v4:Value} (h:w.heap[z]? =some (.cells #[v0,v1,v2,v3,v4] 27 (0,0))):
  w.cell? ⟨z,0,none⟩=some v0∧w.cell? ⟨z,1,none⟩=some v1∧w.cell? ⟨z,2,none⟩=some v2∧w.cell? ⟨z,3,none⟩=some v3∧w.cell? ⟨z,4,none⟩=some v4:=by
 refine⟨?_, ?_, ?_, ?_, ?_⟩ <;> (rw[eX _ _ _ _ _ _ h];rfl)
def ai (T:PT):Array Value:= #[.int .i64 T.k,.string T.t,.int .i64 T.n,.string T.nm,.slice T.xa T.len T.cap]
def aB:Array Value:= #[.int .i64 0,.string ⟨#[]⟩,.int .i64 0,.string ⟨#[]⟩,.slice none 0 0]
theorem ik (T:PT):(ai T).all (·.oneCell')=true:=by simp[ai,Value.oneCell']
def eO (T:PT):List Value:=[.int .i64 T.k,.string T.t,.int .i64 T.n,.string T.nm,.slice T.xa T.len T.cap]
theorem jh (T:PT):(eO T).length=5:=rfl
theorem nK (T:PT):∀u ∈ eO T,u.oneCell'=true:=by
 intro u hu;simp only[eO,dU,ek,fL] at hu;rcases hu with rfl | rfl | rfl | rfl | rfl <;> rfl
theorem vT:(prog.info? 27).map (fun i=>(i.zero,i.size,i.bytes))=some (some (.agg aB),5,72):=by kernel_rfl
theorem D6 {w:World} {B g cap i:Nat} {v:Value} {l:List PT} {x:PT} (h:cc w B 27 5 eO v l) (hv:v=.slice (some ⟨g,0,none⟩) l.length cap) (hx:l[i]? =some x):
  w.cell? ⟨g,i * 5,none⟩=some (.int .i64 x.k)∧w.cell? ⟨g,i * 5+1,none⟩=some (.string x.t)∧w.cell? ⟨g,i * 5+2,none⟩=some (.int .i64 x.n)∧w.cell? ⟨g,i * 5+3,none⟩=some (.string x.nm)∧w.cell? ⟨g,i * 5+4,none⟩=some (.slice x.xa x.len x.cap):=
 ⟨h.cell jh hv hx (k:=0) rfl,h.cell jh hv hx (k:=1) rfl,h.cell jh hv hx (k:=2) rfl,h.cell jh hv hx (k:=3) rfl,h.cell jh hv hx (k:=4) rfl⟩
def gd (k:Int) (nm:ByteArray) (g cap:Nat) (L:List PT):PT:=⟨k,⟨#[]⟩,0,nm,some ⟨g,0,none⟩,g,0,L.length,cap,fun i=>L[i]⟩
theorem Lg (k:Int) (nm:ByteArray) (g cap:Nat) (L:List PT):(gd k nm g cap L).lst=L:=by unfold PT.lst gd;exact List.ofFn_getElem
theorem wP (k:Int) (nm:ByteArray) (g cap:Nat) (L:List PT):(gd k nm g cap L).can=aI k ⟨#[]⟩ 0 nm (L.map PT.can):=by
 rw[PT.can_eq,Lg];rfl
theorem BO {w:World} {B k' g cap:Nat} {L:List PT} {nm:ByteArray} (h:cc w B 27 5 eO (.slice (some ⟨g,0,none⟩) L.length cap) L) (hL:∀x ∈ L,x.In w) (k:Int) (hk:k=(k':Int)) (hk':k'≤100) (hn:nm.size≤65536):(gd k nm g cap L).In w:=by
 have hf:=h.max;have eI:L.length≤cap:=by
  obtain⟨a,c,e, -,hc⟩:=h.len;injection e with _ _ e3
  omega
 refine⟨by rw[hk];constructor <;> omega,by unfold maxLen;decide,by decide,by unfold maxLen;omega,hf,eI,fun _=>rfl,fun i=> ?_⟩
 obtain⟨x0,x1,x2,x3,x4⟩:=D6 h rfl (i:=i.val) (x:=L[i]) (jH i.isLt);simp only[oI];exact⟨⟨x0,x1,x2,x3,x4⟩,hL _ (qz i.isLt)⟩
def bd (B:Nat) (w:World) (U:PT):Prop:=∀X:World,(∀i,B≤i→i < w.heap.size→X.heap[i]? =w.heap[i]?)→U.In X
def gm (B:Nat) (g:Option Nat) (w:World) (U:PT):Prop:=∀X:World,(∀i,B≤i→i < w.heap.size→some i≠g→X.heap[i]? =w.heap[i]?)→U.In X
theorem bd.here {B:Nat} {w:World} {U:PT} (h:bd B w U):U.In w:=h w fun _ _ _=>rfl
theorem bd.step {B:Nat} {w w':World} {U:PT} (h:bd B w U) (hs:w.heap.size≤w'.heap.size) (hb:∀i,B≤i→i < w.heap.size→w'.heap[i]? =w.heap[i]?):bd B w' U:=
 fun X hX=>h X fun i h1 h2=>(hX i h1 (by omega)).trans (hb i h1 h2)
theorem bd.mono {B C:Nat} {w:World} {U:PT} (h:bd C w U) (hc:B≤C):bd B w U:=fun X hX=>h X fun i h1 h2=>hX i (by omega) h2
theorem bd.below {B:Nat} {w w':World} {U:PT} (h:bd B w U) (hb:Below w.heap.size w w'):bd B w' U:=h.step hb.size fun i _ h2=>hb.block i h2
theorem bd.but {B z:Nat} {w w':World} {U:PT} (h:bd B w U) (hb:But z w w') (hz:z < B):bd B w' U:=h.step hb.size fun i h1 h2=>hb.block i h2 (by omega)
theorem bd.setRow {B g:Nat} {w:World} {U:PT} (h:bd B w U) (hg:g < B) (cs:Array Value):bd B (w.setRow g cs) U:=h.step (by simp) fun i h1 _=>dH w g i cs (by omega)
theorem bd.except {B C:Nat} {g:Option Nat} {w:World} {U:PT} (h:bd C w U) (hc:B≤C) (hg:∀i,g=some i→i < C):gm B g w U:=fun X hX=>h X fun i h1 h2=>hX i (by omega) h2 fun e=>by have:=hg i e.symm;omega
theorem gm.step {B:Nat} {g:Option Nat} {w w':World} {U:PT} (h:gm B g w U) (hs:w.heap.size≤w'.heap.size) (hb:∀i,B≤i→i < w.heap.size→some i≠g→w'.heap[i]? =w.heap[i]?):gm B g w' U:=
 fun X hX=>h X fun i h1 h2 h3=>(hX i h1 (by omega) h3).trans (hb i h1 h2 h3)
theorem gm.below {B:Nat} {g:Option Nat} {w w':World} {U:PT} (h:gm B g w U) (hb:Below w.heap.size w w'):gm B g w' U:=h.step hb.size fun i _ h2 _=>hb.block i h2
theorem gm.but {B z:Nat} {g:Option Nat} {w w':World} {U:PT} (h:gm B g w U) (hb:But z w w') (hz:z < B):gm B g w' U:=h.step hb.size fun i h1 h2 _=>hb.block i h2 (by omega)
theorem gm.lies {B:Nat} {g:Option Nat} {w:World} {U:PT} (h:gm B g w U):bd B w U:=fun X hX=>h X fun i h1 h2 _=>hX i h1 h2
theorem gm.grown {B:Nat} {g g':Option Nat} {w w':World} {U:PT} (h:gm B g w U) (hg:w.grownBy w' g) (hn:g'=g∨g'=some w.heap.size):gm B g' w' U:=fun X hX=>h X fun i h1 h2 h3=>by
 refine(hX i h1 (i6 h2 hg.size) ?_).trans (hg.block i h2 h3);rcases hn with rfl | rfl
 ·exact h3
 ·intro e;injection e with e;omega
theorem sK {B:Nat} {w:World} {k n:Int} {t nm:ByteArray} (hk:0≤k∧k≤100) (hn:0≤n∧n≤100000) (ht:t.size≤65536) (hm:nm.size≤65536):bd B w (aI k t n nm []):=fun X _=>
 ⟨by constructor <;> omega,by unfold maxLen;omega,by constructor <;> omega,by unfold maxLen;omega,by unfold maxLen;decide,ax _,fun h=>absurd h (xG _),fun i=>i.elim0⟩
theorem pu (k n:Int) (t nm:ByteArray):(aI k t n nm []).can=aI k t n nm []:=by rw[PT.can_eq,wZ];rfl
def fv (B:Nat) (p:PT) (e:Ending) (w:World):Prop:=∃U:PT,e=.returned (pv U)∧U.can=p∧bd B w U
structure KidsL (B:Nat) (w:World) (v:Value) (L:List PT) (l:List PT):Prop where
 row:cc w B 27 5 eO v L
 can:L.map PT.can=l
 lies:∀x ∈ L,gm B v.ownBlock w x
def Av (k:Int) (v:Value) (L:List PT) (U:PT):Prop:=(∃x,L=[x]∧U=x)∨(2≤L.length∧∃g cap,v=.slice (some ⟨g,0,none⟩) L.length cap∧U=gd k ⟨#[]⟩ g cap L)
theorem DZ {k:Int} {v:Value} {L:List PT} {U:PT} (h:Av k v L U):U.can=iw k (L.map PT.can):=by
 rcases h with ⟨x,rfl,rfl⟩ | ⟨h,g,cap, -,rfl⟩
 ·rfl
 ·rw[wP]
  match L,h with
  | _::_::_,_=>rfl
theorem DA {k' B:Nat} {v:Value} {L l:List PT} {U:PT} {w:World} (hk:k'≤100) (h:Av (k':Int) v L U) (hK:KidsL B w v L l):bd B w U:=by
 rcases h with ⟨x,rfl,rfl⟩ | ⟨h,g,cap,rfl,rfl⟩
 ·exact(hK.lies U (by simp)).lies
 ·intro X hX
  have lc:=hK.row.low (k:=g) rfl;have hr:cc X B 27 5 eO (.slice (some ⟨g,0,none⟩) L.length cap) L:=hK.row.same fun k hk=>by
   have:k=g:=by simpa [Value.ownBlock] using hk.symm
   subst this;exact hX k lc.1 lc.2
  exact BO hr (fun x hx=>(hK.lies x hx).lies X hX) (k':Int) rfl hk (by decide)
theorem C2 (k:Nat) (v:Value) (L:List PT) (B:Nat) (w:World) (hr:cc w B 27 5 eO v L) (hL:L≠[]):
  Calls prog 178 #[.int .i64 (k:Int),v] w fun e w'=>(∃U,e=.returned (pv U)∧Av (k:Int) v L U)∧Below w.heap.size w w':=by
 have hb2:Below w.heap.size w (w.alloc (.cells aB 27)):=ba _;have hz:(w.alloc (.cells aB 27)).heap[w.heap.size]? =some (.cells aB 27 (0,0)):=aw rfl;have HZ:=ab (And.intro hz hb2)
 match L,hr,hL with
 | [],_,hL=>exact absurd rfl hL
 | [x],hr,_=>
  obtain⟨g,cap,rfl, -, -⟩:=hr.form (by simp)
  obtain⟨x0,x1,x2,x3,x4⟩:=D6 (hr.later hb2) rfl (i:=0) (x:=x) rfl;have ma:=No (g:=g) (cap:=cap) (i:=0) (n:=1) underlying25 dK (by decide)
  simp only[Nat.zero_mul,oI] at x0 x1 x2 x3 x4;unfold aB at x0 x1 x2 x3 x4;clear hr hz hb2;go_enter func178,ntmps178;go_wp2_with (first
   | (refine aX rfl 27 _ _ rfl w.heap.size (ai x) rfl rfl 27 aB (aa HZ).1 dK rfl (ik x) ?_)
   | fail)
  (try simp only[Exit.inBlock,Exit.then])
  exact ck (dT rfl _ _ w.heap.size 27 (ai x) (0,0) _ rfl (cm _ _ _ _ _ _ (aa HZ).1) underlying27 rfl dK) rfl ⟨⟨x,rfl,.inl ⟨x,rfl,rfl⟩⟩,eL (aa HZ).2 _ (by omega) _⟩
 | x::y::L',hr,_=>
  obtain⟨g,cap,rfl, -, -⟩:=hr.form (by simp)
  have hm:=hr.max;unfold maxLen at hm;obtain⟨n,kq⟩:∃n,n=(x::y::L').length:=⟨_,rfl⟩;have jc:2≤n:=by rw[kq];simp
  have HU:Hid (Av (k:Int) (.slice (some ⟨g,0,none⟩) n cap) (x::y::L') (gd (k:Int) ⟨#[]⟩ g cap (x::y::L'))):=ab (.inr ⟨by simp,g,cap,by rw[kq],rfl⟩)
  have HPV:Hid (pv (gd (k:Int) ⟨#[]⟩ g cap (x::y::L'))=.agg #[.int .i64 (k:Int),.string ⟨#[]⟩,.int .i64 0,.string ⟨#[]⟩,.slice (some ⟨g,0,none⟩) n cap]):=ab (by rw[kq];rfl)
  rw[←kq] at hm ⊢;have q1:((n:Int)==1)=false:=bn;clear hr hz hb2 kq;generalize gd (k:Int) ⟨#[]⟩ g cap (x::y::L')=U at *;go_enter func178,ntmps178;go_wp2_with (first
   | (refine aX rfl 27 _ _ rfl w.heap.size #[.int .i64 (k:Int),.string ⟨#[]⟩,.int .i64 0,.string ⟨#[]⟩,.slice (some ⟨g,0,none⟩) n cap] rfl rfl 27 aB (aa HZ).1 dK rfl (by simp[Value.oneCell']) ?_)
   | fail)
  (try simp only[Exit.inBlock,Exit.then])
  exact ck (dT rfl _ _ w.heap.size 27 #[.int .i64 (k:Int),.string ⟨#[]⟩,.int .i64 0,.string ⟨#[]⟩,.slice (some ⟨g,0,none⟩) n cap] (0,0) _ rfl (cm _ _ _ _ _ _ (aa HZ).1) underlying27 rfl dK) rfl ⟨⟨U,by rw[aa HPV],aa HU⟩,eL (aa HZ).2 _ (by omega) _⟩
open Go.RowKit
theorem dI.but {w w':World} {z:Nat} (h:dI w) (hb:But z w w') (hz:z≠1):dI w':=fun K h1 h2=>by
 obtain⟨a,b,c,d⟩:=h K h1 h2;have hg:w'.heap[1]? =w.heap[1]? :=hb.block _ (by
  unfold World.cell? at a;rcases cX 1 w.heap.size with q | q
  ·exact q
  ·rw[Array.getElem?_eq_none q] at a;cases a) (fun e=>hz e.symm)
 have key:∀o,w'.cell? ⟨1,o,none⟩=w.cell? ⟨1,o,none⟩:=fun o=>by
  unfold World.cell?;rw[hg]
 exact⟨(key _).trans a,(key _).trans b,(key _).trans c,(key _).trans d⟩
def oF (f:FuncId) (d:Nat) (P:ByteArray→Nat→Rd PT):Prop:=∀(s:ByteArray) (i z:Nat) (w:World),s.size≤65536→i≤s.size→bR w z s i ((200 - d:Nat):Int)→dI w→z≠1→
 Calls prog f #[.pointer (some ⟨z,0,none⟩)] w fun e w'=>fZ (fv w.heap.size) z s ((200 - d:Nat):Int) w (P s i) e w'
theorem bR.set2q {w:World} {z:Nat} {s:ByteArray} {i:Nat} {o:Int} (h:bR w z s i o) {p q:Int} (hq:p=q):bR (w.setCell ⟨z,2,none⟩ (.int .i64 p)) z s i q:=by subst hq;exact h.set2 p
theorem oE {w:World}:(w.alloc (.cells aB 27)).heap[w.heap.size]? =some (.cells aB 27 (0,0)):=aw rfl
theorem dS {w w':World} {z k:Nat} {x:Obj} (h:But z w w') (hk:w.heap[k]? =some x) (hz:k≠z):w'.heap[k]? =some x:=h.row hz hk
theorem j7 {w W:World} {z g:Nat} (h:But z w W) (hg:w.heap.size≤g) (cs:Array Value):But z w (W.setRow g cs):=
 ⟨h.os,h.tape,h.output,by simpa using h.size,fun k hk hz=>(dH W g k cs (by omega)).trans (h.block k hk hz)⟩
theorem bR.setRow {w:World} {z g:Nat} {s:ByteArray} {i:Nat} {o:Int} (h:bR w z s i o) (hg:g≠z) (cs:Array Value):bR (w.setRow g cs) z s i o:=(dH w g z cs (fun e=>hg e.symm)).trans h
theorem BL {s:ByteArray} {c i:Nat} (h:nx s i=c):eF s c i=.ok ((),sk s i+1):=af h
theorem BM {s:ByteArray} {c i:Nat} (h:nx s i≠c):eF s c i=.error (2,sk s i):=ac h
theorem C0 {d:Nat} (hd:d≤200) {B:ByteArray→Nat→Rd PT} (hB:∀s,eG s (B s)) (HA:0 < d→oF 166 (d - 1) B):oF 194 d (fun s=>jD d (B s) s):=by
 intro s i z w hs hi hR hS hzG;have hzl:=hR.lt;have aZ:But z w (w.alloc (.cells aB 27)):=(But.refl z w).alloc _;have fb:=hR.below ((aW _ _).alloc (ax _) (.cells aB 27));have hbox:(w.alloc (.cells aB 27)).heap[w.heap.size]? =some (.cells aB 27 (0,0)):=oE;have bo:w.heap.size≠z:=by omega
 have ao:=ab (hS.but aZ hzG);have aD:=ab aZ;have ei:=ab hbox;show Calls _ _ _ _ fun e w'=>fZ (fv w.heap.size) z s ((200 - d:Nat):Int) w (jD d (B s) s i) e w'
 unfold jD
 by_cases h1:nx s i=40
 ·rw[BL h1,dE]
  have HT:=ab (BK 40 _ hs hi fb h1 (by decide))
  have au:=kU (s:=s) (i:=i) (by omega)
  generalize sk s i=j at *;clear h1 hR fb hS aZ hbox
  by_cases jL:d=0
  ·subst jL
   rw[af rfl];have HTH:=ab (fun w=>wK 4 (j+1) w)
   go_enter func194,ntmps194;go_wp2_with fail;refine(aa HT).mono ?_;rintro e w1 ⟨rfl,hb1,hR1⟩;have c1:=hR1.c1;have c2:=hR1.c2;have bf:=ab ((aa aD).trans hb1);clear hb1 hR1;go_wp2_with (refine(aa HTH _).mono ?_;rintro e w ⟨rfl,rfl⟩;unfold aC);exact⟨rfl,fQ rfl (aa bf) rfl⟩
  ·rw[ac jL]
   have HAd:=ab (HA (by omega) s (j+1) z)
   have hdd:((200 - d:Nat):Int)≠200:=by omega
   have vm:((200 - d:Nat):Int)+1=((200 - (d - 1):Nat):Int):=by omega
   have hne2:(((200 - d:Nat):Int)==200)=false:=bn hdd;have ho1:(0:Int)≤((200 - d:Nat):Int)∧((200 - d:Nat):Int)≤200:=by omega
   have HADV:=ab (hB s (j+1));have HOP:=ab vm;clear hdd HA vm;generalize ((200 - (d - 1):Nat):Int)=o1 at *;generalize ((200 - d:Nat):Int)=o at *;obtain⟨R,fb⟩:∃R,B s (j+1)=R:=⟨_,rfl⟩;rw[fb] at HAd HADV ⊢;clear fb;rcases R with ⟨er,at'⟩ | ⟨p,k⟩
   ·rw[jA]
    go_enter func194,ntmps194;go_wp2_with fail;refine(aa HT).mono ?_;rintro e w1 ⟨rfl,hb1,hR1⟩;have c1:=hR1.c1;have c2:=hR1.c2;have fz:=hR1.fz 2;have bf:=ab ((aa aD).trans hb1);have H1:=ab hR1;have bP:=ab ((aa ao).but hb1 hzG);clear hb1 hR1;go_wp2_with (refine(aa HAd _ hs (by omega) ((aa H1).set2q (aa HOP)) ((aa bP).but ((But.refl z w1).setCell 2 _) hzG) hzG).mono ?_;intro e w3 hP;obtain⟨hb3,rfl⟩:=j9 hP rfl;clear hP;have aq:=ab ((aa bf).trans (((But.refl z w1).setCell 2 _).trans hb3));clear hb3;unfold aC)
    exact⟨rfl,fQ rfl (aa aq) rfl⟩
   ·rw[dE]
    have nf:=aa HADV p k (by omega) rfl
    go_enter func194,ntmps194;go_wp2_with fail;refine(aa HT).mono ?_;rintro e w1 ⟨rfl,hb1,hR1⟩;have c1:=hR1.c1;have c2:=hR1.c2;have fz:=hR1.fz 2;have bf:=ab ((aa aD).trans hb1);have H1:=ab hR1;have bP:=ab ((aa ao).but hb1 hzG);have dy:=ab ((aa ei |> fun h=>dS hb1 h bo))
    clear hb1 hR1;go_wp2_with fail;refine(aa HAd _ hs (by omega) ((aa H1).set2q (aa HOP)) ((aa bP).but ((But.refl z w1).setCell 2 _) hzG) hzG).mono ?_
    intro e w3 hP;obtain⟨hb3,⟨U,rfl,hU,hL⟩,hR3⟩:=jB hP rfl;unfold pv;have gW:w.heap.size+1≤w1.heap.size:=by
     have h:=(aa dy);exact(bC.1 h).1
    rw[show (w1.setCell ⟨z,2,none⟩ (.int .i64 (o+1))).heap.size=w1.heap.size by simp] at hL
    have vk:w1.heap.size≤w3.heap.size:=by have:=hb3.size;simpa using this
    have aq:=ab ((aa bf).trans (((But.refl z w1).setCell 2 _).trans hb3));have bj:=ab (dS (((But.refl z w1).setCell 2 (.int .i64 (o+1))).trans hb3) (aa dy) bo);have kB:=ab hL;have HU:=ab hU;have hb4:Below w3.heap.size w3 (w3.alloc (.cells #[.int .i64 U.k,.string U.t,.int .i64 U.n,.string U.nm,.slice U.xa U.len U.cap] 27)):=ba _;have hn3:¬w3.heap.size=z:=by omega
    have hn4:¬z=w3.heap.size:=by omega
    by_cases h2:nx s k=41
    ·have eA:Hid ((bO (eF s 41 k) fun _ m=>(.ok (p,m):Rd PT))=.ok (p,sk s k+1)):=ab (by rw[BL h2,dE])
     have ky:=ab (BK 41 _ hs nf.2 (hR3.below hb4) h2 (by decide))
     have vb:=kU (s:=s) (i:=k) (by omega)
     have HG4:Hid ((w3.alloc (.cells #[.int .i64 U.k,.string U.t,.int .i64 U.n,.string U.nm,.slice U.xa U.len U.cap] 27)).heap[w3.heap.size]? =some (.cells #[.int .i64 U.k,.string U.t,.int .i64 U.n,.string U.nm,.slice U.xa U.len U.cap] 27 (0,0))):=ab (aw rfl);have dz:=ab ((aa aq).trans (But.of_below hb4));have ii:=ab ((aa kB).below hb4);have bZ:=ab (am (aa bj) hb4);clear hb3 hR3 hU hL hP hb4 c1 c2 fz bj kB h2;generalize sk s k=m at *;go_wp2_with fail;refine(aa ky).mono ?_;rintro e w5 ⟨rfl,hb5,hR5⟩;have HG5:=ab (dS hb5 (aa HG4) (by omega))
     have dt:=ab (dS hb5 (aa bZ) bo);have ez:=ab ((aa dz).trans hb5);have sB:=ab ((aa ii).but hb5 (by omega))
     have c2:=hR5.c2;have fz:=hR5.fz 2;have H5:=ab hR5;obtain⟨g0,g1,g2,g3,g4⟩:=ej (aa HG5);have hom:o1 - 1=o:=by have:=aa HOP;omega
     have HOM:=ab hom;have ho2:(1:Int)≤o1∧o1≤201:=by have:=aa HOP;omega
     have gK:Hid ((w5.setCell ⟨z,2,none⟩ (.int .i64 (o1 - 1))).heap[w.heap.size]? =some (.cells aB 27 (0,0))):=ab ((dm w5 ⟨z,2,none⟩ w.heap.size _ bo).trans (aa dt));clear hb5 hR5 hom;go_wp2_with (first
      | (refine aX rfl 27 _ _ rfl w.heap.size (ai U) rfl rfl 27 aB (aa gK) dK rfl (ik U) ?_)
      | fail)
     (try simp only[Exit.inBlock,Exit.then])
     refine ck (dT rfl _ _ w.heap.size 27 (ai U) (0,0) _ rfl (cm _ _ _ _ _ _ (aa gK)) underlying27 rfl dK) rfl ?_;exact lz (aa eA) (j7 ((aa ez).setCell 2 _) (ax _) _) ⟨U,rfl,aa HU,((((aa sB).but ((But.refl z w5).setCell 2 _) (by omega)).setRow (by omega) _).mono (by omega))⟩ (((aa H5).set2q (aa HOM)).setRow bo _)
    ·have eA:Hid ((bO (eF s 41 k) fun _ m=>(.ok (p,m):Rd PT))=.error (2,sk s k)):=ab (by rw[BM h2,jA])
     have ky:=ab (Bl 41 _ hs nf.2 (hR3.below hb4) h2);have dz:=ab ((aa aq).trans (But.of_below hb4));clear hb3 hR3 hU hL hP hb4 c1 c2 fz bj kB h2;generalize sk s k=m at *;go_wp2_with (refine(aa ky).mono ?_;rintro e w5 ⟨rfl,hb5⟩;have ez:=ab ((aa dz).trans hb5);clear hb5;unfold aC);exact⟨rfl,fQ (aa eA) (aa ez) rfl⟩
 ·rw[BM h1,jA]
  have HT:=ab (Bl 40 _ hs hi fb h1);clear h1 hR fb hS aZ hbox HA;go_enter func194,ntmps194;go_wp2_with (refine(aa HT).mono ?_;rintro e w5 ⟨rfl,hb5⟩;have ez:=ab ((aa aD).trans hb5);clear hb5;unfold aC);exact⟨rfl,fQ rfl (aa ez) rfl⟩
open Go.RowKit
def yB (_:Unit) (e:Ending) (_:World):Prop:=e=.returned (.tuple #[])
theorem zC {s:ByteArray} {i z:Nat} {o:Int} (c:Nat) (h0:c≠0) (w:World) (hs:s.size≤65536) (hi:i≤s.size) (hR:bR w z s i o):Calls prog 200 #[.pointer (some ⟨z,0,none⟩),.int .u8 (c:Int)] w fun e w'=>fZ yB z s o w (eF s c i) e w':=by
 by_cases h:nx s i=c
 ·refine(BK c w hs hi hR h h0).mono ?_
  rintro e w' ⟨rfl,hb,hr⟩;exact lz (BL h) hb rfl hr
 ·refine(Bl c w hs hi hR h).mono ?_
  rintro e w' ⟨rfl,hb⟩;exact fQ (BM h) hb rfl
def gS (k:Nat) (t:ByteArray) (n:Int):Array Value:= #[.int .i64 (k:Int),.string t,.int .i64 n,.string ⟨#[]⟩,.slice none 0 0]
theorem ext_le (s:ByteArray) (i j:Nat):(s.extract i j).size≤s.size:=by rw[ByteArray.size_extract];omega
theorem xZ (t:ByteArray):iL t≤24:=Fi t 24
theorem zI (k:Nat) (t:ByteArray) (n:Int):(gS k t n).all (·.oneCell')=true:=by simp[gS,Value.oneCell']
theorem zq {w W:World} {z g:Nat} (h:But z w W) (hg:w.heap.size≤g) (k:Nat) (v:Value):But z w (W.setCell ⟨g,k,none⟩ v):=
 ⟨h.os,h.tape,h.output,by simpa using h.size,fun i hi hz=>(dm W ⟨g,k,none⟩ i v (by show i≠g;omega)).trans (h.block i hi hz)⟩
theorem Gf {s:ByteArray} {i n j:Nat} (h:mB s i=.ok (n,j)):n≤65536:=by
 unfold mB at h;split at h
 ·split at h
  ·cases h
  ·split at h
   ·cases h
   ·injection h with h;injection h with h _;omega
 ·cases h
theorem ct_len (s:ByteArray) (i:Nat):(ct s i).length≤s.size - i:=
 xk (P:=fun i=>(ct s i).length≤s.size - i) (fun i hi=>by rw[GD hi];simp) (fun i hi hb ih=>by rw[yb hi hb,List.length_cons];omega)
  (fun i hb hc ih=>by rw[yw hb hc,List.length_cons];have:=mx (s:=s) (i:=i+1) (by omega);omega) (fun i hb hc=>by rw[yl hb hc];simp) s.size i (by omega)
theorem Cd {s:ByteArray} {i j:Nat} {t:ByteArray} (hs:s.size≤65536) (h:jV s i=.ok (t,j)):t.size≤65536:=by
 unfold jV at h;split at h
 ·injection h with h;injection h with h _
  subst h;have:=ct_len s (i+1);show (ct s (i+1)).toArray.size≤65536;simp;omega
 ·cases h
theorem Fq {s:ByteArray} {i j:Nat} {t:ByteArray} (hs:s.size≤65536) (h:lH s i=.ok (t,j)):t.size≤65536:=by
 unfold lH at h;split at h
 ·obtain⟨u,e,h1,h2⟩:=ec h
  split at h2
  ·cases h2
  ·injection h2 with h2;injection h2 with h2 _
   subst h2;exact Cd hs h1
 ·cases h
theorem IL {d:Nat} {B:ByteArray→Nat→Rd PT} {s:ByteArray} {i z:Nat} {o:Int} {w:World} (hs:s.size≤65536) (hl:di (aj s i)=true) (hR:bR w z s i o) (hS:dI w) (hzG:z≠1)
  {K:Nat} (hK:iL (s.extract i (bX s i))=K) (h0:K≠0) (ju:K≠20) (hh:aE K=2):
  Calls prog 195 #[.pointer (some ⟨z,0,none⟩)] w fun e w'=>fZ (fv w.heap.size) z s o w (fB d (B s) s i) e w':=by
 have hE:=px hl;have hzl:=hR.lt;have aZ:But z w (w.alloc (.cells aB 27)):=(But.refl z w).alloc _;have fb:=hR.below ((aW _ _).alloc (ax _) (.cells aB 27));have bo:w.heap.size≠z:=by omega
 have wA:K≤24:=hK▸xZ _;have ao:=ab (hS.but aZ hzG);have aD:=ab aZ;have ei:Hid ((w.alloc (.cells aB 27)).heap[w.heap.size]? =some (.cells aB 27 (0,0))):=ab (oE);have HW:=ab (wJ _ hs (by omega) fb)
 have ou:=ab (fun w h=>xQ (s.extract i (bX s i)) w h)
 rw[hK] at ou;have oX:=ab (fun w h=>zC (z:=z) (o:=o) 40 (by decide) w hs hE.2 h)
 have HT1A:=ab (fun x a=>nH s 40 (by decide) (bX s i) x a hE.2)
 have eA:Hid (fB d (B s) s i=bO (eF s 40 (bX s i)) fun _ a=>bO (mB s a) fun n b=>bO (eF s 41 b) fun _ c=>.ok (aI K ⟨#[]⟩ n ⟨#[]⟩ [],c)):=ab (by
  unfold fB;rw[hK,ac h0,ac ju,af hh])
 generalize fB d (B s) s i=RR at *;have c1:=fb.c1;unfold aB at c1;have e0:((K:Int)==0)=false:=bn;have e20:((K:Int)==20)=false:=bn;have hKb:(0:Int)≤(K:Int)∧(K:Int) < 25:=by omega
 have HH:=ab hh;have tO:1≤K:=by omega
 clear hR fb hS aZ hl hK hh h0 ju;generalize s.extract i (bX s i)=word at *;generalize bX s i=E at *;go_enter func195,ntmps195;go_wp2_with fail;refine(aa HW).mono ?_;rintro e w1 ⟨rfl,hb1,hR1⟩;have bP:=ab ((aa ao).but hb1 hzG);have dy:=ab (dS hb1 (aa ei) bo);have bf:=ab ((aa aD).trans hb1);have H1:=ab hR1;have gW:w.heap.size+1≤w1.heap.size:=(bC.1 (aa dy)).1;clear hb1 hR1 c1;go_wp2_with fail;refine(aa ou _ (aa bP)).mono ?_;rintro e w1 ⟨rfl,rfl⟩;have hb2:Below w1.heap.size w1 (w1.alloc (.cells (gS K ⟨#[]⟩ 0) 27)):=ba _;have fo:=ab ((aa bP).later hb2);obtain⟨-,s1, -, -⟩:=aa fo K tO wA;rw[aa HH] at s1;have dY:=ab (am (aa dy) hb2);have aF:=ab ((aa bf).trans (But.of_below hb2));have H2:=ab ((aa H1).below hb2);have dW:Hid ((w1.alloc (.cells (gS K ⟨#[]⟩ 0) 27)).heap[w1.heap.size]? =some (.cells (gS K ⟨#[]⟩ 0) 27 (0,0))):=ab (aw rfl);unfold gS at s1;clear hb2;go_wp2_with fail;refine(aa oX _ (aa H2)).mono ?_;intro e w3 oh;have mN:w1.heap.size≠z:=by omega
 rcases hr3:eF s 40 E with ⟨er,a1⟩ | ⟨⟨⟩,a1⟩
 ·obtain⟨hb3,rfl⟩:=j9 oh hr3
  have aq:=ab ((aa aF).trans hb3);have gA:Hid (RR=.error (er,a1)):=ab (by rw[aa eA,hr3,jA])
  clear oh hb3 hr3 s1;unfold aC;go_wp2_with fail;exact⟨rfl,fQ (aa gA) (aa aq) rfl⟩
 ·obtain⟨hb3,hv3,hR3⟩:=jB oh hr3
  unfold yB at hv3;subst hv3;have nf:=aa HT1A _ a1 hr3;have ig:=ab (dS hb3 (aa dW) mN);have bj:=ab (dS hb3 (aa dY) bo);have aq:=ab ((aa aF).trans hb3);have H3:=ab hR3;have HNU:=ab (fun w h=>I2 (z:=z) (o:=o) w hs nf.2 h)
  have ml:=ab (fun n b=>zS s a1 n b nf.2)
  have wE:Hid (RR=bO (mB s a1) fun n b=>bO (eF s 41 b) fun _ c=>.ok (aI K ⟨#[]⟩ n ⟨#[]⟩ [],c)):=ab (by rw[aa eA,hr3,dE])
  clear oh hb3 hr3 s1 hR3 eA;go_wp2_with fail;refine(aa HNU _ (aa H3)).mono ?_;intro e w4 tM;rcases hr4:mB s a1 with ⟨er,a2⟩ | ⟨n,a2⟩
  ·obtain⟨hb4,rfl⟩:=j9 tM hr4
   have dz:=ab ((aa aq).trans hb4);have gA:Hid (RR=.error (er,a2)):=ab (by rw[aa wE,hr4,jA])
   clear tM hb4 hr4;unfold aC;go_wp2_with fail;exact⟨rfl,fQ (aa gA) (aa dz) rfl⟩
  ·obtain⟨hb4,vh,hR4⟩:=jB tM hr4
   unfold numV at vh;subst vh;have yN:=aa ml n a2 hr4;have lP:=ab (Gf hr4);have iq:=ab (dS hb4 (aa ig) mN);have bZ:=ab (dS hb4 (aa bj) bo);have dz:=ab ((aa aq).trans hb4);have H4:=ab hR4;obtain⟨p0,p1,p2,p3,p4⟩:=ej (aa iq);have pf:=cT w4 w1.heap.size 2 _ _ (aa iq);have kR:Hid ((w4.setCell ⟨w1.heap.size,2,none⟩ (.int .i64 (n:Int))).heap[w1.heap.size]? =some (.cells (gS K ⟨#[]⟩ (n:Int)) 27 (0,0))):=ab (fK w4 w1.heap.size 2 _ _ _ (aa iq));have dt:Hid ((w4.setCell ⟨w1.heap.size,2,none⟩ (.int .i64 (n:Int))).heap[w.heap.size]? =some (.cells aB 27 (0,0))):=ab ((dm w4 ⟨w1.heap.size,2,none⟩ w.heap.size _ (by show w.heap.size≠w1.heap.size;omega)).trans (aa bZ))
   have H5:Hid (bR (w4.setCell ⟨w1.heap.size,2,none⟩ (.int .i64 (n:Int))) z s a2 o):=ab ((dm w4 ⟨w1.heap.size,2,none⟩ z _ (by show z≠w1.heap.size;omega)).trans (aa H4))
   have ez:Hid (But z w (w4.setCell ⟨w1.heap.size,2,none⟩ (.int .i64 (n:Int)))):=ab (zq (aa dz) (by omega) _ _)
   have ky:=ab (fun w h=>zC (z:=z) (o:=o) 41 (by decide) w hs yN.2 h)
   have yY:Hid (RR=bO (eF s 41 a2) fun _ c=>.ok (aI K ⟨#[]⟩ n ⟨#[]⟩ [],c)):=ab (by rw[aa wE,hr4,dE])
   clear tM hb4 hr4 hR4 wE;go_wp2_with fail;refine(aa ky _ (aa H5)).mono ?_;intro e w6 tL;rcases hr6:eF s 41 a2 with ⟨er,a3⟩ | ⟨⟨⟩,a3⟩
   ·obtain⟨hb6,rfl⟩:=j9 tL hr6
    have gC:=ab ((aa ez).trans hb6);have gA:Hid (RR=.error (er,a3)):=ab (by rw[aa yY,hr6,jA])
    clear tL hb6 hr6 p0 p1 p2 p3 p4 pf;unfold aC;go_wp2_with fail;exact⟨rfl,fQ (aa gA) (aa gC) rfl⟩
   ·obtain⟨hb6,eg,hR6⟩:=jB tL hr6
    unfold yB at eg;subst eg;clear p0 p1 p2 p3 p4 pf;obtain⟨p0,p1,p2,p3,p4⟩:=ej (dS hb6 (aa kR) mN);have gK:=ab (dS hb6 (aa dt) bo);have gC:=ab ((aa ez).trans hb6);have H6:=ab hR6;have gA:Hid (RR=.ok (aI K ⟨#[]⟩ n ⟨#[]⟩ [],a3)):=ab (by rw[aa yY,hr6,dE])
    clear tL hb6 hr6 hR6;go_wp2_with (first
     | (refine aX rfl 27 _ _ rfl w.heap.size (gS K ⟨#[]⟩ (n:Int)) rfl rfl 27 aB (aa gK) dK rfl (zI _ _ _) ?_)
     | fail)
    (try simp only[Exit.inBlock,Exit.then])
    refine ck (dT rfl _ _ w.heap.size 27 (gS K ⟨#[]⟩ (n:Int)) (0,0) _ rfl (cm _ _ _ _ _ _ (aa gK)) underlying27 rfl dK) rfl ?_;exact lz (aa gA) (j7 (aa gC) (ax _) _) ⟨aI K ⟨#[]⟩ n ⟨#[]⟩ [],rfl,pu _ _ _ _,sK (by omega) (by have h:=aa lP;omega) (by decide) (by decide)⟩ ((aa H6).setRow bo _)
theorem Ii {d:Nat} {B:ByteArray→Nat→Rd PT} {s:ByteArray} {i z:Nat} {o:Int} {w:World} (hs:s.size≤65536) (hl:di (aj s i)=true) (hR:bR w z s i o) (hS:dI w) (hzG:z≠1)
  {K:Nat} (hK:iL (s.extract i (bX s i))=K) (h0:K≠0) (ju:K≠20) (hh:aE K=1):
  Calls prog 195 #[.pointer (some ⟨z,0,none⟩)] w fun e w'=>fZ (fv w.heap.size) z s o w (fB d (B s) s i) e w':=by
 have hE:=px hl;have hzl:=hR.lt;have aZ:But z w (w.alloc (.cells aB 27)):=(But.refl z w).alloc _;have fb:=hR.below ((aW _ _).alloc (ax _) (.cells aB 27));have bo:w.heap.size≠z:=by omega
 have wA:K≤24:=hK▸xZ _;have ao:=ab (hS.but aZ hzG);have aD:=ab aZ;have ei:Hid ((w.alloc (.cells aB 27)).heap[w.heap.size]? =some (.cells aB 27 (0,0))):=ab (oE);have HW:=ab (wJ _ hs (by omega) fb)
 have ou:=ab (fun w h=>xQ (s.extract i (bX s i)) w h)
 rw[hK] at ou;have oX:=ab (fun w h=>zC (z:=z) (o:=o) 40 (by decide) w hs hE.2 h)
 have HT1A:=ab (fun x a=>nH s 40 (by decide) (bX s i) x a hE.2)
 have eA:Hid (fB d (B s) s i=bO (eF s 40 (bX s i)) fun _ a=>bO (lH s a) fun t b=>bO (eF s 41 b) fun _ c=>.ok (aI K t 0 ⟨#[]⟩ [],c)):=ab (by
  unfold fB;rw[hK,ac h0,ac ju,ac (by rw[hh];decide),af hh])
 generalize fB d (B s) s i=RR at *;have c1:=fb.c1;unfold aB at c1;have e0:((K:Int)==0)=false:=bn;have e20:((K:Int)==20)=false:=bn;have hKb:(0:Int)≤(K:Int)∧(K:Int) < 25:=by omega
 have HH:=ab hh;have tO:1≤K:=by omega
 clear hR fb hS aZ hl hK hh h0 ju;generalize s.extract i (bX s i)=word at *;generalize bX s i=E at *;go_enter func195,ntmps195;go_wp2_with fail;refine(aa HW).mono ?_;rintro e w1 ⟨rfl,hb1,hR1⟩;have bP:=ab ((aa ao).but hb1 hzG);have dy:=ab (dS hb1 (aa ei) bo);have bf:=ab ((aa aD).trans hb1);have H1:=ab hR1;have gW:w.heap.size+1≤w1.heap.size:=(bC.1 (aa dy)).1;clear hb1 hR1 c1;go_wp2_with fail;refine(aa ou _ (aa bP)).mono ?_;rintro e w1 ⟨rfl,rfl⟩;have hb2:Below w1.heap.size w1 (w1.alloc (.cells (gS K ⟨#[]⟩ 0) 27)):=ba _;have fo:=ab ((aa bP).later hb2);obtain⟨-,s1, -, -⟩:=aa fo K tO wA;rw[aa HH] at s1;have dY:=ab (am (aa dy) hb2);have aF:=ab ((aa bf).trans (But.of_below hb2));have H2:=ab ((aa H1).below hb2);have dW:Hid ((w1.alloc (.cells (gS K ⟨#[]⟩ 0) 27)).heap[w1.heap.size]? =some (.cells (gS K ⟨#[]⟩ 0) 27 (0,0))):=ab (aw rfl);unfold gS at s1;clear hb2;go_wp2_with fail;refine(aa oX _ (aa H2)).mono ?_;intro e w3 oh;have mN:w1.heap.size≠z:=by omega
 rcases hr3:eF s 40 E with ⟨er,a1⟩ | ⟨⟨⟩,a1⟩
 ·obtain⟨hb3,rfl⟩:=j9 oh hr3
  have aq:=ab ((aa aF).trans hb3);have gA:Hid (RR=.error (er,a1)):=ab (by rw[aa eA,hr3,jA])
  clear oh hb3 hr3 s1;unfold aC;go_wp2_with fail;exact⟨rfl,fQ (aa gA) (aa aq) rfl⟩
 ·obtain⟨hb3,hv3,hR3⟩:=jB oh hr3
  unfold yB at hv3;subst hv3;have nf:=aa HT1A _ a1 hr3;have ig:=ab (dS hb3 (aa dW) mN);have bj:=ab (dS hb3 (aa dY) bo);have aq:=ab ((aa aF).trans hb3);have H3:=ab hR3;have HNU:=ab (fun w h=>Ju (z:=z) (o:=o) w hs nf.2 h)
  have ml:=ab (fun n b=>zX s a1 n b nf.2)
  have wE:Hid (RR=bO (lH s a1) fun n b=>bO (eF s 41 b) fun _ c=>.ok (aI K n 0 ⟨#[]⟩ [],c)):=ab (by rw[aa eA,hr3,dE])
  clear oh hb3 hr3 s1 hR3 eA;go_wp2_with fail;refine(aa HNU _ (aa H3)).mono ?_;intro e w4 tM;rcases hr4:lH s a1 with ⟨er,a2⟩ | ⟨n,a2⟩
  ·obtain⟨hb4,rfl⟩:=j9 tM hr4
   have dz:=ab ((aa aq).trans hb4);have gA:Hid (RR=.error (er,a2)):=ab (by rw[aa wE,hr4,jA])
   clear tM hb4 hr4;unfold aC;go_wp2_with fail;exact⟨rfl,fQ (aa gA) (aa dz) rfl⟩
  ·obtain⟨hb4,vh,hR4⟩:=jB tM hr4
   unfold lD at vh;subst vh;have yN:=aa ml n a2 hr4;have lP:=ab (Fq hs hr4);have iq:=ab (dS hb4 (aa ig) mN);have bZ:=ab (dS hb4 (aa bj) bo);have dz:=ab ((aa aq).trans hb4);have H4:=ab hR4;obtain⟨p0,p1,p2,p3,p4⟩:=ej (aa iq);have pf:=cT w4 w1.heap.size 1 _ _ (aa iq);have kR:Hid ((w4.setCell ⟨w1.heap.size,1,none⟩ (.string n)).heap[w1.heap.size]? =some (.cells (gS K n 0) 27 (0,0))):=ab (fK w4 w1.heap.size 1 _ _ _ (aa iq));have dt:Hid ((w4.setCell ⟨w1.heap.size,1,none⟩ (.string n)).heap[w.heap.size]? =some (.cells aB 27 (0,0))):=ab ((dm w4 ⟨w1.heap.size,1,none⟩ w.heap.size _ (by show w.heap.size≠w1.heap.size;omega)).trans (aa bZ))
   have H5:Hid (bR (w4.setCell ⟨w1.heap.size,1,none⟩ (.string n)) z s a2 o):=ab ((dm w4 ⟨w1.heap.size,1,none⟩ z _ (by show z≠w1.heap.size;omega)).trans (aa H4))
   have ez:Hid (But z w (w4.setCell ⟨w1.heap.size,1,none⟩ (.string n))):=ab (zq (aa dz) (by omega) _ _)
   have ky:=ab (fun w h=>zC (z:=z) (o:=o) 41 (by decide) w hs yN.2 h)
   have yY:Hid (RR=bO (eF s 41 a2) fun _ c=>.ok (aI K n 0 ⟨#[]⟩ [],c)):=ab (by rw[aa wE,hr4,dE])
   clear tM hb4 hr4 hR4 wE;go_wp2_with fail;refine(aa ky _ (aa H5)).mono ?_;intro e w6 tL;rcases hr6:eF s 41 a2 with ⟨er,a3⟩ | ⟨⟨⟩,a3⟩
   ·obtain⟨hb6,rfl⟩:=j9 tL hr6
    have gC:=ab ((aa ez).trans hb6);have gA:Hid (RR=.error (er,a3)):=ab (by rw[aa yY,hr6,jA])
    clear tL hb6 hr6 p0 p1 p2 p3 p4 pf;unfold aC;go_wp2_with fail;exact⟨rfl,fQ (aa gA) (aa gC) rfl⟩
   ·obtain⟨hb6,eg,hR6⟩:=jB tL hr6
    unfold yB at eg;subst eg;clear p0 p1 p2 p3 p4 pf;obtain⟨p0,p1,p2,p3,p4⟩:=ej (dS hb6 (aa kR) mN);have gK:=ab (dS hb6 (aa dt) bo);have gC:=ab ((aa ez).trans hb6);have H6:=ab hR6;have gA:Hid (RR=.ok (aI K n 0 ⟨#[]⟩ [],a3)):=ab (by rw[aa yY,hr6,dE])
    clear tL hb6 hr6 hR6;go_wp2_with (first
     | (refine aX rfl 27 _ _ rfl w.heap.size (gS K n 0) rfl rfl 27 aB (aa gK) dK rfl (zI _ _ _) ?_)
     | fail)
    (try simp only[Exit.inBlock,Exit.then])
    refine ck (dT rfl _ _ w.heap.size 27 (gS K n 0) (0,0) _ rfl (cm _ _ _ _ _ _ (aa gK)) underlying27 rfl dK) rfl ?_;exact lz (aa gA) (j7 (aa gC) (ax _) _) ⟨aI K n 0 ⟨#[]⟩ [],rfl,pu _ _ _ _,sK (by omega) (by omega) (aa lP) (by decide)⟩ ((aa H6).setRow bo _)
end Go.Proofs.YtlmnjbipfacniaaGreatDoor
