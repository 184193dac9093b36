/- Lines of a program that are read, plain: over their tokens. -/
import Derived.Test.YtlmnjbipfacniaaGreatDoorRdPlainMs
import Derived.Test.YtlmnjbipfacniaaGreatDoorLxPlainMs
import Derived.Test.YtlmnjbipfacniaaGreatDoorStBMs
import Derived.Test.YtlmnjbipfacniaaGreatDoorLexRepLibMs
namespace Go.Proofs.YtlmnjbipfacniaaGreatDoor
open Go.RowKit
abbrev Sy (α:Type):=Except (Int × Nat) (α × List Tk)
def aR {α β:Type} (r:Sy α) (f:α→List Tk→Sy β):Sy β:=
 match r with
 | .ok (a,j)=>f a j
 | .error e=>.error e
theorem aQ {α β:Type} (a:α) (j:List Tk) (f:α→List Tk→Sy β):aR (.ok (a,j)) f=f a j:=rfl
theorem di {α β:Type} (e:Int × Nat) (f:α→List Tk→Sy β):aR (.error e) f=.error e:=rfl
theorem KA {α β:Type} {r:Sy α} {f:α→List Tk→Sy β} {x:β × List Tk} (h:aR r f=.ok x):∃a j,r=.ok (a,j)∧f a j=.ok x:=by
 cases r with
 | ok v=>exact⟨v.1,v.2,rfl,h⟩
 | error e=>cases h
def ak (E n:Nat) (l:List Tk):Tk:=(l[n]?).getD ⟨0,ByteArray.empty,E⟩
def ah (b:UInt8):ByteArray:=⟨#[b]⟩
def aL (t:Tk) (s:ByteArray):Bool:=decide (t.k=5) && decide (t.t=s)
def fL (t:Tk) (s:ByteArray):Bool:=decide (t.k=1) && decide (t.t=s)
def ef (E:Nat) (s:ByteArray) (l:List Tk):Sy Unit:=if aL (ak E 0 l) s=true then .ok ((),l.tail) else .error (2,(ak E 0 l).a)
def dL (E:Nat) (l:List Tk):Sy ByteArray:=
 if (ak E 0 l).k=1 then (if ca (ak E 0 l).t=true then .ok ((ak E 0 l).t,l.tail) else .error (7,(ak E 0 l).a)) else .error (2,(ak E 0 l).a)
def ja (E:Nat):Nat→List ByteArray→List Tk→Sy (List ByteArray)
 | 0,_,_=>.error (0,0)
 | f+1,o,l=>aR (dL E l) fun t r=>if o.length=8 then .error (5,(ak E 0 l).a) else if aL (ak E 0 r) (ah 44)=true then ja E f (o++[t]) r.tail else .ok (o++[t],r)
def pX (E:Nat) (l:List Tk):Sy (List ByteArray):=ja E 9 [] l
def lV (E:Nat) (l:List Tk):Sy PT:=
 if (ak E 0 l).k=4 then (match j2 (ak E 0 l).t with | .ok x=>.ok (x.1,l.tail) | .error e=>.error (e.1,(ak E 0 l).a+1+e.2)) else .error (2,(ak E 0 l).a)
def oe (t:ByteArray):Nat:=t.toList.foldl (fun n b=>10 * n+(b.toNat - 48)) 0
def mB (E:Nat) (l:List Tk):Sy Int:=
 if 1 < (ak E 0 l).t.size∧aj (ak E 0 l).t 0=48 then .error (2,(ak E 0 l).a)
 else if 9223372036854775807 < oe (ak E 0 l).t then .error (3,(ak E 0 l).a)
 else .ok ((oe (ak E 0 l).t:Int),l.tail)
def iD (t:ByteArray):Nat:=if t=ah 38 then 8 else if t=ah 43 then 9 else if t=ah 45 then 10 else if t=ah 42 then 11 else if t=ah 47 then 12 else if t=ah 37 then 13 else 0
def pS (k:Nat):Nat:=if k=8 then 1 else if k=9∨k=10 then 2 else if 11≤k then 3 else 0
def il (lv:Nat) (t:Tk):Nat:=if t.k=5∧pS (iD t.t)=lv then iD t.t else 0
def k8 (k:Int) (l:List PT):PT:=aP k ByteArray.empty 0 ByteArray.empty l
structure Lv where
 sg:List Tk→Sy PT
 pi:List Tk→Sy PT
 xp:List Tk→Sy PT
def Cm {α:Type} (E:Nat) (l:List Tk):Sy α:=.error (4,(ak E 0 l).a)
def eX (E:Nat) (p:Option Lv) (l:List Tk):Sy PT:=match p with | none=>Cm E l | some q=>q.xp l
def uD (E:Nat) (p:Option Lv) (l:List Tk):Sy PT:=match p with | none=>Cm E l | some q=>q.pi l
def uC (E:Nat) (p:Option Lv) (l:List Tk):Sy PT:=match p with | none=>Cm E l | some q=>q.sg l
def erO {α:Type} (R:Sy α) (x:Int × Nat):Int × Nat:=match R with | .error e=>e | .ok _=>x
def pV (E:Nat) (l:List Tk):Int × Nat:=
 if (ak E 0 l).k=1 then erO (dL E l) (5,(ak E 0 l).a)
 else if (ak E 0 l).k=2 then erO (mB E l) (5,(ak E 0 l).a)
 else if (ak E 0 l).k=3 then (5,(ak E 0 l).a)
 else if aL (ak E 0 l) (ah 45)=true∨aL (ak E 0 l) (ah 36)=true∨aL (ak E 0 l) (ah 40)=true then (5,(ak E 0 l).a)
 else (2,(ak E 0 l).a)
def tmS {α:Type} (E:Nat) (l:List Tk):Sy α:=.error (pV E l)
def iO (E:Nat) (p:Option Lv):Nat→List PT→List Tk→Sy (List PT)
 | 0,_,_=>.error (0,0)
 | f+1,o,l=>if o.length=8 then tmS E l else aR (eX E p l) fun x r=>
   if aL (ak E 0 r) (ah 44)=true then iO E p f (o++[x]) r.tail else aR (ef E (ah 41) r) fun _ q=>.ok (o++[x],q)
def na (E:Nat) (p:Option Lv) (l:List Tk):Sy (List PT):=if aL (ak E 0 l) (ah 41)=true then .ok ([],l.tail) else iO E p 9 [] l
def kE (E:Nat) (p:Option Lv) (l:List Tk):Sy PT:=aR (dL E l) fun t r=>
 if aL (ak E 0 r) (ah 60)=true then aR (eX E p r.tail) fun x q=>aR (ef E (ah 62) q) fun _ m=>.ok (aP 4 ByteArray.empty 0 t [x],m)
 else if aL (ak E 0 r) (ah 40)=true then aR (na E p r.tail) fun o q=>.ok (aP 6 ByteArray.empty 0 t o,q)
 else .ok (aP 3 ByteArray.empty 0 t [],r)
def eY (E:Nat) (p:Option Lv) (l:List Tk):Sy PT:=
 if (ak E 0 l).k=1 then kE E p l
 else if (ak E 0 l).k=2 then aR (mB E l) fun n r=>.ok (aP 2 ByteArray.empty n ByteArray.empty [],r)
 else if (ak E 0 l).k=3 then .ok (aP 1 (ak E 0 l).t 0 ByteArray.empty [],l.tail)
 else if aL (ak E 0 l) (ah 36)=true then aR (uD E p l.tail) fun x r=>.ok (k8 5 [x],r)
 else aR (ef E (ah 40) l) fun _ r=>aR (eX E p r) fun x q=>aR (ef E (ah 41) q) fun _ m=>.ok (x,m)
def gc (E:Nat) (p:Option Lv) (l:List Tk):Sy PT:=
 if aL (ak E 0 l) (ah 45)=true then aR (uC E p l.tail) fun x r=>.ok (k8 7 [x],r) else eY E p l
def kD (E lv:Nat) (N:List Tk→Sy PT):Nat→PT→List Tk→Sy PT
 | 0,_,_=>.error (0,0)
 | f+1,x,l=>if il lv (ak E 0 l)=0 then .ok (x,l) else aR (N l.tail) fun y r=>kD E lv N f (k8 (il lv (ak E 0 l)) [x,y]) r
def lG (E lv:Nat) (N:List Tk→Sy PT) (l:List Tk):Sy PT:=aR (N l) fun x r=>kD E lv N (r.length+1) x r
def lF (E:Nat) (p:Option Lv) (lv:Nat):List Tk→Sy PT:=
 if lv=1 then lG E 1 (lG E 2 (lG E 3 (gc E p))) else if lv=2 then lG E 2 (lG E 3 (gc E p)) else if lv=3 then lG E 3 (gc E p) else gc E p
def bV (E:Nat):Nat→Option Lv
 | 0=>none
 | d+1=>some ⟨gc E (bV E d),eY E (bV E d),lF E (bV E d) 1⟩
def exS (E d:Nat) (l:List Tk):Sy PT:=eX E (bV E d) l
def fA (l:List ByteArray):NL:=⟨none,0,0,l.length,l⟩
def cc:SV:=⟨ByteArray.empty,0,PT.nul,PT.nul,PT.nul,ByteArray.empty,ByteArray.empty,fA [],fA [],ByteArray.empty,ByteArray.empty,ByteArray.empty⟩
def SV.can (S:SV):SV:=⟨S.lab,S.k,S.tg.can,S.va.can,S.pa.can,S.nm,S.en,fA S.ps.l,fA S.ls.l,S.al,S.ye,S.no⟩
def mZ:ByteArray:=⟨#[68,69,70,73,78,69]⟩
def ju:ByteArray:=⟨#[58,61]⟩
def dpS (E:Nat) (l:List Tk):Sy (List ByteArray):=if aL (ak E 0 l) (ah 41)=true then .ok ([],l.tail) else aR (pX E l) fun ps r=>aR (ef E (ah 41) r) fun _ q=>.ok (ps,q)
def uG (E:Nat) (l:List Tk):Sy (List ByteArray):=if (ak E 1 l).k=1∨aL (ak E 1 l) (ah 44)=true then pX E l else .ok ([],l)
def dfS (E:Nat) (l:List Tk):Sy (ByteArray × List ByteArray × List ByteArray × ByteArray):=aR (dL E l) fun nm r=>aR (ef E (ah 40) r) fun _ r1=>aR (dpS E r1) fun ps r2=>aR (uG E r2) fun ls r3=>aR (dL E r3) fun en r4=>.ok ((nm,ps,ls,en),r4)
def uE (m g:Bool):Int:=if m=true then (if g=true then 5 else 4) else if g=true then 3 else 2
def evP (E:Nat) (l:List Tk):Sy (Option PT):=if aL (ak E 0 l) (ah 63)=true then aR (lV E l.tail) fun p r=>.ok (some p,r) else .ok (none,l)
def uF (E d:Nat) (x:PT) (at_:Nat) (l:List Tk):Sy (Option PT):=if aL (ak E 0 l) (ah 61)=true then (if n5 x.k=true then aR (exS E d l.tail) fun y r=>.ok (some y,r) else .error (8,at_)) else .ok (none,l)
def evV (S:SV) (x:PT) (p g:Option PT):SV:={S with k:=uE p.isSome g.isSome,tg:=if g.isSome=true then x else PT.nul,va:=g.getD x,pa:=p.getD PT.nul}
def oc (E d:Nat) (S:SV) (l:List Tk):Sy SV:=aR (exS E d l) fun x r=>aR (evP E r) fun p r1=>aR (uF E d x (ak E 0 l).a r1) fun g r2=>.ok (evV S x p g,r2)
def el (E d:Nat) (S:SV) (l:List Tk):Sy SV:=
 if (ak E 0 l).k=0∨aL (ak E 0 l) (ah 58)=true then .ok ({S with k:=1},l)
 else if fL (ak E 0 l) mZ=true∧(ak E 1 l).k=1 then aR (dfS E l.tail) fun x r=>.ok ({S with k:=7,nm:=x.1,ps:=fA x.2.1,ls:=fA x.2.2.1,en:=x.2.2.2},r)
 else if (ak E 0 l).k=1∧aL (ak E 1 l) ju=true then aR (dL E l) fun nm r=>aR (ef E ju r) fun _ q=>aR (lV E q) fun p m=>.ok ({S with k:=6,nm:=nm,pa:=p},m)
 else oc E d S l
def j1 (E:Nat) (l:List Tk):Sy ByteArray:=aR (ef E (ah 40) l) fun _ r=>aR (dL E r) fun t q=>aR (ef E (ah 41) q) fun _ m=>.ok (t,m)
def m5 (E:Nat) (yes:Bool) (S:SV) (l:List Tk):Sy SV:=if fL (ak E 0 l) (ah 70)=true then aR (j1 E l.tail) fun t r=>.ok ({S with no:=t},r) else if yes=true then .ok (S,l) else .error (2,(ak E 0 l).a)
def fZ (E:Nat) (S:SV) (l:List Tk):Sy SV:=
 if aL (ak E 0 l) (ah 58)=true then
  (
   if aL (ak E 0 l.tail) (ah 40)=true then aR (j1 E l.tail) fun t r=>.ok ({S with al:=t},r)
   else if fL (ak E 0 l.tail) (ah 83)=true then aR (j1 E l.tail.tail) fun t r=>m5 E true {S with ye:=t} r
   else m5 E false S l.tail)
 else .ok (S,l)
def th (s:ByteArray) (E:Nat) (l:List Tk):Sy ByteArray:=if s.size≠0∧aj s 0≠32∧aj s 0≠58 then dL E l else .ok (ByteArray.empty,l)
def qQ (s:ByteArray) (l:List Tk):Sy SV:=aR (th s s.size l) fun t r=>aR (el s.size 400 {cc with lab:=t} r) fun S q=>aR (fZ s.size S q) fun S m=>if m.length=0 then .ok (S,m) else .error (2,(ak s.size 0 m).a)
def jb (s:ByteArray):Except (Int × Nat) (Option SV):=
 if aj s 0=42∧s.size≤2000 then .ok none
 else if (gx s).2.1≠0 then .error ((gx s).2.1,(gx s).2.2)
 else match qQ s (gx s).1 with
  | .error e=>.error e
  | .ok x=>if x.1.tg.fits=true∧x.1.va.fits=true then .ok (some x.1) else .error (4,0)
def lU:List ByteArray→Nat→List SV→Except (Int × Nat) (List SV)
 | [],_,o=>.ok o
 | s::l,i,o=>match jb s with
  | .error e=>.error (e.1,i)
  | .ok none=>lU l (i+1) o
  | .ok (some S)=>lU l (i+1) (o++[S])
open Go.RowKit
def At (s:ByteArray) (i:Nat) (l:List UInt8):Prop:=i≤s.size∧∃r,s.data.toList.drop i=l++r
theorem At.le {s:ByteArray} {i:Nat} {l:List UInt8} (h:At s i l):i+l.length≤s.size:=by
 obtain⟨h1,r,h2⟩:=h;have:=aD List.length h2;simp at this;omega
theorem At.left {s:ByteArray} {i:Nat} {a b:List UInt8} (h:At s i (a++b)):At s i a:=by
 obtain⟨h1,r,h2⟩:=h;exact⟨h1,b++r,by rw[h2,fT]⟩
theorem At.right {s:ByteArray} {i:Nat} {a b:List UInt8} (h:At s i (a++b)):At s (i+a.length) b:=by
 have hl:=h.left.le;obtain⟨h1,r,h2⟩:=h;refine⟨hl,r, ?_⟩;rw[←List.drop_drop,h2,fT,List.drop_left]
theorem At.head {s:ByteArray} {i:Nat} {c:UInt8} {l:List UInt8} (h:At s i (c::l)):aj s i=c.toNat∧i < s.size:=by
 have hl:=h.le;obtain⟨h1,r,h2⟩:=h;have e:=aD List.head? h2;rw[List.head?_drop] at e;constructor
 ·unfold aj
  rw[List.getD,e];rfl
 ·simp at hl;omega
theorem At.tail {s:ByteArray} {i:Nat} {c:UInt8} {l:List UInt8} (h:At s i (c::l)):At s (i+1) l:=At.right (a:=[c]) h
theorem At.get {s:ByteArray} {i:Nat} {l:List UInt8} (h:At s i l) {k:Nat} (hk:k < l.length):aj s (i+k)=(l[k]).toNat:=by
 obtain⟨h1,r,h2⟩:=h;have e:=aD (fun x=>x[k]?) h2
 simp only[List.getElem?_drop] at e;rw[List.getElem?_append_left hk,gT hk] at e;unfold aj;rw[List.getD,e];rfl
theorem Gk (l:List UInt8):At ⟨l.toArray⟩ 0 l:=⟨cU _,[],by simp⟩
def iP (s:ByteArray) (j:Nat):Prop:=aj s j=32∨aj s j=41∨aj s j=0
theorem iP.word {s:ByteArray} {j:Nat} (h:iP s j):dB (aj s j)=false:=by
 rcases h with h | h | h <;> rw[h] <;> rfl
theorem iP.digit {s:ByteArray} {j:Nat} (h:iP s j):cR (aj s j)=false:=by
 rcases h with h | h | h <;> rw[h] <;> rfl
theorem iP.quote {s:ByteArray} {j:Nat} (h:iP s j):aj s j≠39:=by
 rcases h with h | h | h <;> rw[h] <;> decide
theorem xf {s:ByteArray} {p:Nat→Bool}:∀(n i:Nat),(∀k,k < n→i+k < s.size∧p (aj s (i+k))=true)→p (aj s (i+n))=false→cZ s p i=i+n
 | 0,i,_,h=>by rw[Nat.add_zero];exact oL fun _=>h
 | n+1,i,hk,h=>by
  have h0:=hk 0 (by omega)
  rw[Nat.add_zero] at h0;rw[nT h0.1 h0.2,xf n (i+1) (fun k hk'=>by have:=hk (k+1) (by omega);rwa [show i+1+k=i+(k+1) by omega]) (by rw[show i+1+n=i+(n+1) by omega];exact h)]
  omega
theorem wR {s:ByteArray} {i:Nat} (h:aj s i=32):sk s i=sk s (i+1):=nT (mv (by omega)) (fk h)
theorem xS {s:ByteArray} {i:Nat} (h:aj s i=32):nx s i=nx s (i+1):=by unfold nx;rw[wR h]
theorem ky {s:ByteArray} {i:Nat} (h:aj s i≠32):nx s i=aj s i:=by unfold nx;rw[iY h]
theorem AV {s:ByteArray} {i:Nat} {l:List UInt8} (h:At s i l):s.extract i (i+l.length)=⟨l.toArray⟩:=by
 obtain⟨h1,r,h2⟩:=h;apply ByteArray.ext;apply Array.toList_inj.1;rw[ByteArray.data_extract,Array.toList_extract,List.extract,h2];simp
theorem wdE_at {s:ByteArray} {i:Nat} {l:List UInt8} (h:At s i l) (hw:∀x ∈ l,dB x.toNat=true) (hs:iP s (i+l.length)):cn s i=i+l.length:=
 xf l.length i (fun k hk=>⟨by have:=h.le;omega,by rw[h.get hk];exact hw _ (uL hk)⟩) hs.word
theorem JL {s:ByteArray} {i:Nat} (h:aj s i=32):ib s i=ib s (i+1):=by unfold ib;rw[wR h,xS h]
theorem mq {nm:ByteArray} (h:ca nm=true):(∀x ∈ nm.data.toList,dB x.toNat=true)∧nm.size≤16∧∃c r,nm.data.toList=c::r∧dj c.toNat=true:=by
 unfold ca at h;rw[uM] at h;obtain⟨h1,h2⟩:=h
 cases hl:nm.data.toList with
 | nil=>rw[hl] at h2;cases h2
 | cons c r=>
  rw[hl] at h2;unfold Ab at h2;rw[uM] at h2;have hc:dj c.toNat=true:=by rw[←zf];exact h2.1
  refine⟨fun x hx=> ?_,nf h1,c,r,rfl,hc⟩
  rcases dO.1 hx with rfl | hx
  ·unfold dB;rw[hc];rfl
  ·have:=uN.1 h2.2 x hx
   unfold dB;rw[←zf,←A5];exact this
theorem FX {s:ByteArray} {i:Nat} {nm:ByteArray} (hn:ca nm=true) (h:At s i nm.data.toList) (hs:iP s (i+nm.size)):ib s i=.ok (nm,i+nm.size):=by
 obtain⟨hw,qs,c,r,hl,hc⟩:=mq hn;have bU:nm.data.toList.length=nm.size:=by simp
 have h0:=h;rw[hl] at h0;have hb:=h0.head.1;have bi:aj s i≠32:=fun e=>by rw[hb] at e;rw[e] at hc;exact absurd hc (by decide)
 have hE:=wdE_at h hw (by rw[bU];exact hs)
 rw[bU] at hE;unfold ib;rw[iY bi,ky bi,hb,af hc,hE,ac (by omega)]
 have:=AV h;rw[bU] at this;rw[this]
theorem yz {s:ByteArray}:∀(l:List UInt8) (i:Nat),At s i ((l.flatMap fun c=>if c=39 then [39,39] else [c])++[39])→aj s (i+(l.flatMap fun c=>if c=39 then [39,39] else [c]).length+1)≠39→
  cq s i=i+(l.flatMap fun c=>if c=39 then [39,39] else [c]).length∧ct s i=l
 | [],i,h,hs=>by
  have hb:=h.head.1;exact⟨yf hb hs,yd hb hs⟩
 | c::l,i,h,hs=>by
  rw[gU] at h hs ⊢
  by_cases hc:c=39
  ·rw[af hc] at h hs ⊢
   have h1:=h.head.1;have h2:=h.tail.head.1;have ih:=yz l (i+2) h.tail.tail (by rw[show i+2+(l.flatMap fun c=>if c=39 then [39,39] else [c]).length+1=i+([39,39]++(l.flatMap fun c=>if c=39 then [39,39] else [c])).length+1 by simp;omega];exact hs)
   rw[yr h1 h2,yq h1 h2,ih.1,ih.2,hc];exact⟨by simp;omega,rfl⟩
  ·rw[ac hc] at h hs ⊢
   have h1:=h.head;have bi:aj s i≠39:=fun e=>hc (by rw[h1.1] at e;exact tp.1 e)
   have ih:=yz l (i+1) h.tail (by rw[show i+1+(l.flatMap fun c=>if c=39 then [39,39] else [c]).length+1=i+([c]++(l.flatMap fun c=>if c=39 then [39,39] else [c])).length+1 by simp;omega];exact hs)
   have hg:s.data.toList.getD i 0=c:=tp.1 h1.1;rw[xW h1.2 bi,xV h1.2 bi,ih.1,ih.2,hg];exact⟨by simp;omega,rfl⟩
theorem FE {s:ByteArray} {i:Nat} {t:ByteArray} (h:At s i (et t.data.toList)) (hs:iP s (i+(et t.data.toList).length)):jK s i=.ok (t,i+(et t.data.toList).length):=by
 have eN:=h.le;have hl:(et t.data.toList).length=(t.data.toList.flatMap fun c=>if c=39 then [39,39] else [c]).length+2:=by unfold et;simp
 have h2:At s (i+1) ((t.data.toList.flatMap fun c=>if c=39 then [39,39] else [c])++[39]):=h.tail
 have hq:=yz t.data.toList (i+1) h2 (by rw[show i+1+(t.data.toList.flatMap fun c=>if c=39 then [39,39] else [c]).length+1=i+(et t.data.toList).length by omega];exact hs.quote)
 unfold jK;rw[hq.1,hq.2,af (by omega),hl]
 congr 2
 omega
theorem fiP_at {s:ByteArray} {i:Nat} {t:ByteArray} (h:At s i (et t.data.toList)) (ht:t.size≠0) (hs:iP s (i+(et t.data.toList).length)):mE s i=.ok (t,i+(et t.data.toList).length):=by
 have hb:aj s i=39:=(At.head (l:=_) h).1;unfold mE;rw[ky (by omega),iY (by omega),hb,af rfl,FE h hs,dw,ac ht]
theorem zt:∀(n u:Nat),u < n→∀x ∈ Lib.decDigits u,cR x.toNat=true
 | 0,u,h,_,_=>by omega
 | n+1,u,h,x,hx=>by
  rw[Lib.decDigits] at hx
  by_cases q:u < 10
  ·rw[dif_pos q,jv] at hx
   subst hx;unfold cR;rw[uJ];exact fk (by omega)
  ·rw[dif_neg q,uQ,jv] at hx
   rcases hx with hx | rfl
   ·exact zt n (u / 10) (by omega) x hx
   ·unfold cR
    rw[uJ];exact fk (by omega)
theorem Fa {s:ByteArray} {i:Nat}:∀(n u:Nat),u < n→u≤65536→At s i (Lib.decDigits u)→kY s i (Lib.decDigits u).length=u
 | 0,u,h,_,_=>by omega
 | n+1,u,h,hu,ha=>by
  by_cases q:u < 10
  ·have e:Lib.decDigits u=[UInt8.ofNat (48+u)]:=by rw[Lib.decDigits,dif_pos q]
   rw[e] at ha ⊢;have hb:=ha.head.1;rw[uJ] at hb;show min (10 * 0+(aj s (i+0) - 48)) 65537=u;rw[Nat.add_zero,hb];omega
  ·have e:Lib.decDigits u=Lib.decDigits (u / 10)++[UInt8.ofNat (48+u % 10)]:=by rw[Lib.decDigits,dif_neg q]
   rw[e] at ha ⊢;have ih:=Fa n (u / 10) (by omega) (by omega) ha.left
   have hb:=ha.right.head.1;rw[uJ] at hb;rw[be,List.length_singleton];show min (10 * kY s i (Lib.decDigits (u / 10)).length+(aj s (i+(Lib.decDigits (u / 10)).length) - 48)) 65537=u;rw[ih,hb];omega
theorem Be:∀(n u:Nat),u < n→10≤u→∃c r,Lib.decDigits u=c::r∧c.toNat≠48
 | 0,u,h,_=>by omega
 | n+1,u,h,hu=>by
  have e:Lib.decDigits u=Lib.decDigits (u / 10)++[UInt8.ofNat (48+u % 10)]:=by rw[Lib.decDigits,dif_neg (by omega)]
  by_cases q:u / 10 < 10
  ·have e2:Lib.decDigits (u / 10)=[UInt8.ofNat (48+u / 10)]:=by rw[Lib.decDigits,dif_pos q]
   refine⟨_,_,by rw[e,e2];rfl, ?_⟩
   rw[uJ];omega
  ·obtain⟨c,r,h1,h2⟩:=Be n (u / 10) (by omega) (by omega)
   exact⟨c,r++[UInt8.ofNat (48+u % 10)],by rw[e,h1];rfl,h2⟩
theorem E9 (u:Nat):0 < (Lib.decDigits u).length:=by rw[Lib.decDigits_length];exact Lib.nDigits_pos u
theorem nuP_at {s:ByteArray} {i:Nat} {n:Int} (h0:0≤n) (hn:n≤65536) (h:At s i (Lib.itoa n)) (hs:iP s (i+(Lib.itoa n).length)):mC s i=.ok (n.toNat,i+(Lib.itoa n).length):=by
 have e:Lib.itoa n=Lib.decDigits n.toNat:=by unfold Lib.itoa;rw[ac (by omega)]
 rw[e] at h hs ⊢;generalize hu:n.toNat=u at *;have hu2:u≤65536:=by omega
 have hd:=zt (u+1) u (by omega)
 have hl:=E9 u;have bd:=h.get (k:=0) hl;rw[Nat.add_zero] at bd;have hdg:cR (aj s i)=true:=by rw[bd];exact hd _ (uL hl)
 have bi:aj s i≠32:=fun e=>by rw[e] at hdg;exact absurd hdg (by decide)
 have hE:iN s i=i+(Lib.decDigits u).length:=xf _ i (fun k hk=>⟨by have:=h.le;omega,by rw[h.get hk];exact hd _ (uL hk)⟩) hs.digit
 have hc:=Fa (u+1) u (by omega) hu2 h
 unfold mC;rw[iY bi,ky bi,af hdg,hE,Nat.add_sub_cancel_left,hc,ac,ac (by omega)]
 rintro⟨h48,au⟩
 by_cases q:10≤u
 ·obtain⟨c,r,e1,e2⟩:=Be (u+1) u (by omega) q
  rw[e1] at h;exact e2 (by rw[←h.head.1];exact h48)
 ·have:(Lib.decDigits u).length=1:=by rw[Lib.decDigits,dif_pos (by omega)];rfl
  omega
theorem I0:∀k,(2≤k∧k≤17)∨k=20→kz (aT k)=k:=by
 have key:∀k:Fin 21,((2≤k.val∧k.val≤17)∨k.val=20)→kz (aT k.val)=k.val:=by decide+kernel
 intro k hk;exact key ⟨k,by omega⟩ hk
theorem De:∀k,(2≤k∧k≤17)∨k=20→(∀x ∈ (aT k).data.toList,dB x.toNat=true)∧(∃c r,(aT k).data.toList=c::r∧dj c.toNat=true):=by
 have key:∀k:Fin 21,((2≤k.val∧k.val≤17)∨k.val=20)→((aT k.val).data.toList.all (fun x=>dB x.toNat)=true∧dj ((aT k.val).data.toList.headD 0).toNat=true∧(aT k.val).data.toList≠[]):=by decide+kernel
 intro k hk;obtain⟨h1,h2,h3⟩:=key ⟨k,by omega⟩ hk
 refine⟨fun x hx=>uN.1 h1 x hx, ?_⟩
 cases hl:(aT k).data.toList with
 | nil=>exact absurd hl h3
 | cons c r=>rw[hl] at h2;exact⟨c,r,rfl,h2⟩
open Go.RowKit
structure It where
 k:Nat
 t:ByteArray
def bl:It:=⟨0,ByteArray.empty⟩
def wd (t:ByteArray):It:=⟨1,t⟩
def nu (t:ByteArray):It:=⟨2,t⟩
def tx (t:ByteArray):It:=⟨3,t⟩
def pa (t:ByteArray):It:=⟨4,t⟩
def sg (b:UInt8):It:=⟨5,ah b⟩
def df:It:=⟨5,ju⟩
def It.b (x:It):List UInt8:=if x.k=0 then [32] else if x.k=3 then et x.t.data.toList else if x.k=4 then 91::(x.t.data.toList++[93]) else x.t.data.toList
def ld (l:List UInt8):Prop:=∀s i,At s i l→aj s (i+l.length)≠39→cb s i=cb s (i+l.length)
def ItOK (x:It):Prop:=
 x.k=0∨(x.k=1∧(∀c ∈ x.t.data.toList,dB c.toNat=true)∧∃c r,x.t.data.toList=c::r∧dj c.toNat=true)∨
 (x.k=2∧(∀c ∈ x.t.data.toList,cR c.toNat=true)∧∃c r,x.t.data.toList=c::r)∨x.k=3∨(x.k=4∧ld x.t.data.toList)∨
 (x.k=5∧(x.t=ju∨∃b:UInt8,x.t=ah b∧uA b.toNat=true))
def tm (x:It) (c:Nat):Prop:=(x.k=1→dB c=false)∧(x.k=2→cR c=false)∧(x.k=3→c≠39)∧(x.k=5→x.t=ah 58→c≠61)
def ar (l:List It):List UInt8:=l.flatMap It.b
theorem dq (x:It) (l:List It):ar (x::l)=x.b++ar l:=rfl
theorem fW (a b:List It):ar (a++b)=ar a++ar b:=List.flatMap_append
def im (c:Nat) (l:List It):Nat:=match ar l with | []=>c | d::_=>d.toNat
def Gd (c:Nat):List It→Prop
 | []=>True
 | x::l=>ItOK x∧tm x (im c l)∧Gd c l
theorem zQ (c:Nat) (a b:List It):im c (a++b)=im (im c b) a:=by
 unfold im;rw[fW]
 cases ar a with
 | nil=>rfl
 | cons x r=>rfl
theorem mu {c:Nat} {b:List It} (hb:Gd c b):∀{a:List It},Gd (im c b) a→Gd c (a++b)
 | [],_=>hb
 | x::a,h=>⟨h.1,by show tm x (im c (a++b));rw[zQ];exact h.2.1,mu hb h.2.2⟩
def bj:Nat→List It→List Tk
 | _,[]=>[]
 | i,x::l=>if x.k=0 then bj (i+1) l else ⟨x.k,x.t,i⟩::bj (i+x.b.length) l
theorem Fq {x:It} (h:x.k=0):x.b=[32]:=af h
theorem mr:∀(a b:List It) (i:Nat),bj i (a++b)=bj i a++bj (i+(ar a).length) b
 | [],b,i=>rfl
 | x::a,b,i=>by
  show (if x.k=0 then bj (i+1) (a++b) else ⟨x.k,x.t,i⟩::bj (i+x.b.length) (a++b))=(if x.k=0 then bj (i+1) a else ⟨x.k,x.t,i⟩::bj (i+x.b.length) a)++_;rw[dq,be,←Nat.add_assoc]
  by_cases h:x.k=0
  ·rw[af h,af h,mr a b (i+1),Fq h];rfl
  ·rw[ac h,ac h,mr a b (i+x.b.length)];rfl
theorem xK {s t:ByteArray} {i:Nat} (h:At s i t.data.toList):s.extract i (i+t.data.toList.length)=t:=by
 rw[AV h]
theorem Ma {b:Nat} (h:uA b=true):dj b=false∧cR b=false∧b≠39∧b≠91∧b≠32∧b≠0:=by
 have h:=List.contains_iff_mem.1 h;simp only[dO,eg,fN] at h;rcases h with h | h | h | h | h | h | h | h | h | h | h | h | h | h | h <;> subst h <;> decide
theorem L5 {s:ByteArray} {i:Nat} {x:It} (hx:ItOK x) (hk:x.k≠0) (ha:At s i x.b) (hs:tm x (aj s (i+x.b.length))):i < s.size∧aj s i≠32∧tk s i=(x.k,i+x.b.length,x.t):=by
 obtain⟨k,t⟩:=x;rcases hx with h | ⟨h,hw,c,r,hl,hc⟩ | ⟨h,hd,c,r,hl⟩ | h | ⟨h,ov⟩ | ⟨h,l8⟩
 ·exact absurd h hk
 ·have h:k=1:=h
  subst h;have hl:t.data.toList=c::r:=hl;have hw:∀c ∈ t.data.toList,dB c.toNat=true:=hw;have hb:It.b ⟨1,t⟩=t.data.toList:=rfl;rw[hb] at ha hs ⊢;have h0:=ha;rw[hl] at h0;obtain⟨e,au⟩:=h0.head;have eN:dj (aj s i)=true:=by rw[e];exact hc
  have hp:cZ s dB i=i+t.data.toList.length:=xf t.data.toList.length i (fun k hk=>⟨by have:=ha.le;omega,by rw[ha.get hk];exact hw _ (uL hk)⟩) (hs.1 rfl)
  refine⟨au,fun e2=> ?_, ?_⟩
  ·rw[e2] at eN;exact absurd eN (by decide)
  ·unfold tk
   rw[af eN,hp,xK ha]
 ·have h:k=2:=h
  subst h;have hl:t.data.toList=c::r:=hl;have hd:∀c ∈ t.data.toList,cR c.toNat=true:=hd;have hb:It.b ⟨2,t⟩=t.data.toList:=rfl;rw[hb] at ha hs ⊢;have h0:=ha;rw[hl] at h0;obtain⟨e,au⟩:=h0.head;have hde:cR (aj s i)=true:=by rw[e];exact hd c (by rw[hl];exact sc)
  have hr:=CS hde;have eN:dj (aj s i)=false:=by
   cases q:dj (aj s i) with
   | false=>rfl
   | true=>have:=AL q;omega
  have hp:cZ s cR i=i+t.data.toList.length:=xf t.data.toList.length i (fun k hk=>⟨by have:=ha.le;omega,by rw[ha.get hk];exact hd _ (uL hk)⟩) (hs.2.1 rfl)
  refine⟨au,by omega, ?_⟩
  unfold tk;rw[ac (by rw[eN];decide),af hde,hp,xK ha]
 ·have h:k=3:=h
  subst h;have hb:It.b ⟨3,t⟩=et t.data.toList:=rfl;rw[hb] at ha hs ⊢;have bU:(et t.data.toList).length=(t.data.toList.flatMap fun c=>if c=39 then [39,39] else [c]).length+2:=by unfold et;simp
  have gm:aj s i=39:=ha.head.1;have h2:At s (i+1) ((t.data.toList.flatMap fun c=>if c=39 then [39,39] else [c])++[39]):=ha.tail
  have hq:=yz t.data.toList (i+1) h2 (by rw[show i+1+(t.data.toList.flatMap fun c=>if c=39 then [39,39] else [c]).length+1=i+(et t.data.toList).length by omega];exact hs.2.2.1 rfl)
  have eN:=ha.le;refine⟨ha.head.2,by omega, ?_⟩
  unfold tk;rw[gm,ac (by decide),ac (by decide),af rfl,ac (by rw[hq.1];omega),hq.1,hq.2]
  rw[show i+1+(t.data.toList.flatMap fun c=>if c=39 then [39,39] else [c]).length+1=i+(et t.data.toList).length by omega]
 ·have h:k=4:=h
  subst h;have ov:ld t.data.toList:=ov;have hb:It.b ⟨4,t⟩=91::(t.data.toList++[93]):=rfl;rw[hb] at ha hs ⊢;have h91:aj s i=91:=ha.head.1;have h2:At s (i+1) (t.data.toList++[93]):=ha.tail;have h93:aj s (i+1+t.data.toList.length)=93:=h2.right.head.1;have hc:=ov s (i+1) h2.left (by omega)
  rw[BI h93] at hc;have au:=h2.right.head.2;refine⟨ha.head.2,by omega, ?_⟩
  unfold tk;rw[h91,ac (by decide),ac (by decide),ac (by decide),af rfl,hc,ac (by omega),xK h2.left]
  have e:i+1+t.data.toList.length+1=i+(91::(t.data.toList++[93])).length:=by
   rw[List.length_cons,be,List.length_singleton];omega
  rw[e]
 ·have h:k=5:=h
  subst h;have hb:It.b ⟨5,t⟩=t.data.toList:=rfl;rw[hb] at ha hs ⊢;rcases l8 with l8 | ⟨b,l8,hb1⟩
  ·have l8:t=ju:=l8
   subst l8;have vo:aj s i=58:=ha.head.1;have h61:aj s (i+1)=61:=ha.tail.head.1;refine⟨ha.head.2,by omega, ?_⟩
   have he:=xK ha;have hz:ju.data.toList.length=2:=rfl;rw[hz] at he ⊢;unfold tk;rw[vo,ac (by decide),ac (by decide),ac (by decide),ac (by decide),af ⟨rfl,h61⟩,he]
  ·have l8:t=ah b:=l8
   subst l8;have e0:aj s i=b.toNat:=ha.head.1;have hn:=Ma hb1;rw[←e0] at hn hb1;refine⟨ha.head.2,hn.2.2.2.2.1, ?_⟩;have he:=xK ha;have hz:(ah b).data.toList.length=1:=rfl;rw[hz] at he hs ⊢;unfold tk;rw[ac (by rw[hn.1];decide),ac (by rw[hn.2.1];decide),ac hn.2.2.1,ac hn.2.2.2.1,ac,af hb1,he]
   rintro⟨q1,q2⟩;refine hs.2.2.2 rfl ?_ q2;have:b=58:=tp.1 (by rw[←e0,q1];rfl)
   show ah b=ah 58;rw[this]
theorem Bc {s:ByteArray}:∀(l:List It) (i:Nat) (acc:List Tk),At s i (ar l)→i+(ar l).length=s.size→Gd 0 l→ln s i acc=(acc++bj i l,0,0)
 | [],i,acc,_,he,_=>by
  have:i=s.size:=he;rw[this,B2,show bj s.size []=[] from rfl,lf]
 | x::l,i,acc,ha,he,hg=>by
  rw[dq] at ha he;rw[be] at he;have hr:=ha.right;have hn:aj s (i+x.b.length)=im 0 l:=by
   unfold im
   cases hq:ar l with
   | nil=>rw[hq] at he;exact pM s _ (by rw[List.length_nil] at he;omega)
   | cons d r=>rw[hq] at hr;exact hr.head.1
  by_cases hk:x.k=0
  ·have hb:=Fq hk
   rw[hb] at ha hr he;have iU:aj s i=32:=ha.head.1;have ih:=Bc l (i+1) acc hr (by rw[List.length_singleton] at he;omega) hg.2.2
   rw[D4 ha.head.2 iU,ih];show _=(acc++(if x.k=0 then bj (i+1) l else _),0,0);rw[af hk]
  ·obtain⟨h1,h2,h3⟩:=L5 hg.1 hk ha.left (by rw[hn];exact hg.2.1)
   have ih:=Bc l (i+x.b.length) (acc++[⟨x.k,x.t,i⟩]) hr (by omega) hg.2.2
   rw[B0 h1 h2 (by rw[h3];exact hk),h3]
   show ln s (i+x.b.length) (acc++[⟨x.k,x.t,i⟩])=_;rw[ih,fT];show _=(acc++(if x.k=0 then _ else ⟨x.k,x.t,i⟩::bj (i+x.b.length) l),0,0);rw[ac hk];rfl
theorem IY {l:List It} (hl:(ar l).length≤2000) (hg:Gd 0 l):gx ⟨(ar l).toArray⟩=(bj 0 l,0,0):=by
 have hz:(⟨(ar l).toArray⟩:ByteArray).size=(ar l).length:=by show (ar l).toArray.size=_;simp
 unfold gx;rw[hz,ac (by omega),Bc l 0 [] (Gk _) (by rw[hz];omega) hg]
 rfl
open Go.RowKit
def Le {α:Type} (n:Nat) (R:Sy α):Prop:=∀x r,R=.ok (x,r)→r.length≤n
section
variable {α β:Type} {n:Nat}
theorem Le.err (e:Int × Nat):Le (α:=α) n (.error e):=fun _ _ h=>by cases h
theorem Le.ok {x:α} {r:List Tk} (h:r.length≤n):Le n (.ok (x,r)):=fun _ _ q=>by injection q with q;injection q with _ q;rw[←q];exact h
theorem Le.bind {R:Sy α} {f:α→List Tk→Sy β} (h:Le n R) (k:∀a j,j.length≤n→Le n (f a j)):Le n (aR R f):=fun x r q=>by
 obtain⟨a,j,h1,h2⟩:=KA q;exact k a j (h a j h1) x r h2
theorem Le.ite {c:Prop} [Decidable c] {a b:Sy α} (h:c→Le n a) (k:¬c→Le n b):Le n (if c then a else b):=by
 split
 ·exact h ‹_›
 ·exact k ‹_›
theorem Le.mono {m:Nat} {R:Sy α} (h:Le n R) (hm:n≤m):Le m R:=fun x r q=>bv (h x r q) hm
end
theorem qL (l:List Tk):l.tail.length≤l.length:=by rw[List.length_tail];omega
section
variable {E:Nat}
theorem Aa (s:ByteArray) (l:List Tk):Le l.length (ef E s l):=Le.ite (fun _=>Le.ok (qL l)) fun _=>Le.err _
theorem nmS_le (l:List Tk):Le l.length (dL E l):=Le.ite (fun _=>Le.ite (fun _=>Le.ok (qL l)) fun _=>Le.err _) fun _=>Le.err _
theorem nuS_le (l:List Tk):Le l.length (mB E l):=Le.ite (fun _=>Le.err _) fun _=>Le.ite (fun _=>Le.err _) fun _=>Le.ok (qL l)
theorem tmS_le {α:Type} (n:Nat) (l:List Tk):Le n (tmS (α:=α) E l):=Le.err _
def pU (p:Option Lv):Prop:=∀q,p=some q→∀l:List Tk,Le l.length (q.sg l)∧Le l.length (q.pi l)∧Le l.length (q.xp l)
variable {p:Option Lv}
theorem BP (h:pU p) (l:List Tk):Le l.length (eX E p l):=by
 unfold eX;split
 ·exact Le.err _
 ·exact(h _ rfl l).2.2
theorem piO_le (h:pU p) (l:List Tk):Le l.length (uD E p l):=by
 unfold uD;split
 ·exact Le.err _
 ·exact(h _ rfl l).2.1
theorem sgO_le (h:pU p) (l:List Tk):Le l.length (uC E p l):=by
 unfold uC;split
 ·exact Le.err _
 ·exact(h _ rfl l).1
theorem Gv (h:pU p):∀(f:Nat) (o:List PT) (l:List Tk),Le l.length (iO E p f o l)
 | 0,_,_=>Le.err _
 | f+1,o,l=>by
  unfold iO;refine Le.ite (fun _=>tmS_le _ _) fun _=>Le.bind (BP h l) fun x r hr=>Le.ite (fun _=>(Gv h f _ r.tail).mono (bv (qL r) hr)) fun _=>Le.bind ((Aa _ r).mono hr) fun _ q hq=>Le.ok hq
theorem agS_le (h:pU p) (l:List Tk):Le l.length (na E p l):=Le.ite (fun _=>Le.ok (qL l)) fun _=>Gv h _ _ l
theorem npS_le (h:pU p) (l:List Tk):Le l.length (kE E p l):=
 Le.bind (nmS_le l) fun _ r hr=>Le.ite (fun _=>Le.bind ((BP h r.tail).mono (bv (qL r) hr)) fun _ q hq=>Le.bind ((Aa _ q).mono hq) fun _ _ hm=>Le.ok hm)
  fun _=>Le.ite (fun _=>Le.bind ((agS_le h r.tail).mono (bv (qL r) hr)) fun _ _ hq=>Le.ok hq) fun _=>Le.ok hr
theorem BY (h:pU p) (l:List Tk):Le l.length (eY E p l):=
 Le.ite (fun _=>npS_le h l) fun _=>Le.ite (fun _=>Le.bind (nuS_le l) fun _ _ hr=>Le.ok hr) fun _=>Le.ite (fun _=>Le.ok (qL l)) fun _=>
  Le.ite (fun _=>Le.bind ((piO_le h l.tail).mono (qL l)) fun _ _ hr=>Le.ok hr) fun _=>Le.bind (Aa _ l) fun _ r hr=>Le.bind ((BP h r).mono hr) fun _ q hq=>Le.bind ((Aa _ q).mono hq) fun _ _ hm=>Le.ok hm
theorem xi (h:pU p) (l:List Tk):Le l.length (gc E p l):=Le.ite (fun _=>Le.bind ((sgO_le h l.tail).mono (qL l)) fun _ _ hr=>Le.ok hr) fun _=>BY h l
theorem FA {lv:Nat} {N:List Tk→Sy PT} (hN:∀l,Le l.length (N l)):∀(f:Nat) (x:PT) (l:List Tk),Le l.length (kD E lv N f x l)
 | 0,_,_=>Le.err _
 | f+1,x,l=>by
  unfold kD;exact Le.ite (fun _=>Le.ok (aw _)) fun _=>Le.bind ((hN l.tail).mono (qL l)) fun y r hr=>(FA hN f _ r).mono hr
theorem uq {lv:Nat} {N:List Tk→Sy PT} (hN:∀l,Le l.length (N l)) (l:List Tk):Le l.length (lG E lv N l):=Le.bind (hN l) fun x r hr=>(FA hN _ x r).mono hr
theorem Bx (h:pU p) (lv:Nat) (l:List Tk):Le l.length (lF E p lv l):=by
 unfold lF;split
 ·exact uq (uq (uq (xi h))) l
 ·split
  ·exact uq (uq (xi h)) l
  ·split
   ·exact uq (xi h) l
   ·exact xi h l
theorem Ad:∀d:Nat,pU (bV E d)
 | 0=>fun q h=>by cases h
 | d+1=>fun q h l=>by
  have:=Ad d;injection h with h
  subst h;exact⟨xi this l,BY this l,Bx this 1 l⟩
theorem DN {lv:Nat} {N:List Tk→Sy PT} (hN:∀l,Le l.length (N l)):∀(f g:Nat) (x:PT) (l:List Tk),l.length < f→l.length < g→kD E lv N f x l=kD E lv N g x l
 | 0,_,_,_,h,_=>absurd h (Nat.not_lt_zero _)
 | _+1,0,_,_,_,h=>absurd h (Nat.not_lt_zero _)
 | f+1,g+1,x,l,h1,h2=>by
  unfold kD
  by_cases hk:il lv (ak E 0 l)=0
  ·rw[af hk,af hk]
  ·rw[ac hk,ac hk]
   cases hq:N l.tail with
   | error e=>rfl
   | ok v=>
    have hl:l≠[]:=by
     rintro rfl;exact hk rfl
    have h3:=hN l.tail v.1 v.2 hq;have h4:l.tail.length < l.length:=by rw[List.length_tail];have:=Ar.2 hl;omega
    exact DN hN f g _ v.2 (by omega) (by omega)
theorem DM {lv:Nat} {N:List Tk→Sy PT} (hN:∀l,Le l.length (N l)) {x:PT} {l:List Tk} (hk:il lv (ak E 0 l)≠0):kD E lv N (l.length+1) x l=aR (N l.tail) fun y r=>kD E lv N (r.length+1) (k8 (il lv (ak E 0 l)) [x,y]) r:=by
 rw[kD,ac hk]
 cases hq:N l.tail with
 | error e=>rfl
 | ok v=>
  have hl:l≠[]:=by
   rintro rfl;exact hk rfl
  have h3:=hN l.tail v.1 v.2 hq;have h4:l.tail.length < l.length:=by rw[List.length_tail];have:=Ar.2 hl;omega
  exact DN hN _ _ _ v.2 (by omega) (by omega)
theorem DL {lv:Nat} {N:List Tk→Sy PT} {x:PT} {l:List Tk} (hk:il lv (ak E 0 l)=0):kD E lv N (l.length+1) x l=.ok (x,l):=by rw[kD,af hk]
end
end Go.Proofs.YtlmnjbipfacniaaGreatDoor
