/- Lines of a program that are read, plain: over their tokens. -/
import Derived.Test.YtlmnjbipfacniaaGreatDoorRowBaseM
import Derived.Test.YtlmnjbipfacniaaGreatDoorLxPlainM
import Derived.Test.YtlmnjbipfacniaaGreatDoorStBM
namespace Go.Proofs.YtlmnjbipfacniaaGreatDoor
open Go.RowKit
abbrev Sy (α:Type):=Except (Int × Nat) (α × List Tk)
def aR {α β:Type} (r:Sy α) (f:α→List Tk→Sy β):Sy β:=
 match r with
 | .ok (a,j)=>f a j
 | .error e=>.error e
theorem aT {α β:Type} (a:α) (j:List Tk) (f:α→List Tk→Sy β):aR (.ok (a,j)) f=f a j:=rfl
theorem dn {α β:Type} (e:Int × Nat) (f:α→List Tk→Sy β):aR (.error e) f=.error e:=rfl
theorem D1 {α β:Type} {r:Sy α} {f:α→List Tk→Sy β} {x:β × List Tk} (h:aR r f=.ok x):∃a j,r=.ok (a,j)∧f a j=.ok x:=by
 cases r with
 | ok v=>exact⟨v.1,v.2,rfl,h⟩
 | error e=>cases h
def ak (E n:Nat) (l:List Tk):Tk:=(l[n]?).getD ⟨0,ByteArray.empty,E⟩
def ah (b:UInt8):ByteArray:=⟨#[b]⟩
def aM (t:Tk) (s:ByteArray):Bool:=decide (t.k=5) && decide (t.t=s)
def fW (t:Tk) (s:ByteArray):Bool:=decide (t.k=1) && decide (t.t=s)
def ee (E:Nat) (s:ByteArray) (l:List Tk):Sy Unit:=if aM (ak E 0 l) s=true then .ok ((),l.tail) else .error (2,(ak E 0 l).a)
def dO (E:Nat) (l:List Tk):Sy ByteArray:=
 if (ak E 0 l).k=1 then (if bp (ak E 0 l).t=true then .ok ((ak E 0 l).t,l.tail) else .error (7,(ak E 0 l).a)) else .error (2,(ak E 0 l).a)
def iN (E:Nat):Nat→List ByteArray→List Tk→Sy (List ByteArray)
 | 0,_,_=>.error (0,0)
 | f+1,o,l=>aR (dO E l) fun t r=>if o.length=8 then .error (5,(ak E 0 l).a) else if aM (ak E 0 r) (ah 44)=true then iN E f (o++[t]) r.tail else .ok (o++[t],r)
def oH (E:Nat) (l:List Tk):Sy (List ByteArray):=iN E 9 [] l
def lE (E:Nat) (l:List Tk):Sy PT:=
 if (ak E 0 l).k=4 then (match jq (ak E 0 l).t with | .ok x=>.ok (x.1,l.tail) | .error e=>.error (e.1,(ak E 0 l).a+1+e.2)) else .error (2,(ak E 0 l).a)
def nT (t:ByteArray):Nat:=t.toList.foldl (fun n b=>10 * n+(b.toNat - 48)) 0
def lW (E:Nat) (l:List Tk):Sy Int:=
 if 1 < (ak E 0 l).t.size∧aj (ak E 0 l).t 0=48 then .error (2,(ak E 0 l).a)
 else if 9223372036854775807 < nT (ak E 0 l).t then .error (3,(ak E 0 l).a)
 else .ok ((nT (ak E 0 l).t:Int),l.tail)
def gT (t:ByteArray):Nat:=if t=ah 38 then 8 else if t=ah 43 then 9 else if t=ah 45 then 10 else if t=ah 42 then 11 else if t=ah 47 then 12 else if t=ah 37 then 13 else 0
def pF (k:Nat):Nat:=if k=8 then 1 else if k=9∨k=10 then 2 else if 11≤k then 3 else 0
def gF (lv:Nat) (t:Tk):Nat:=if t.k=5∧pF (gT t.t)=lv then gT t.t else 0
def kl (k:Int) (l:List PT):PT:=aI k ByteArray.empty 0 ByteArray.empty l
structure Lv where
 sg:List Tk→Sy PT
 pi:List Tk→Sy PT
 xp:List Tk→Sy PT
def CI {α:Type} (E:Nat) (l:List Tk):Sy α:=.error (4,(ak E 0 l).a)
def eV (E:Nat) (p:Option Lv) (l:List Tk):Sy PT:=match p with | none=>CI E l | some q=>q.xp l
def rJ (E:Nat) (p:Option Lv) (l:List Tk):Sy PT:=match p with | none=>CI E l | some q=>q.pi l
def rI (E:Nat) (p:Option Lv) (l:List Tk):Sy PT:=match p with | none=>CI E l | some q=>q.sg l
def erO {α:Type} (R:Sy α) (x:Int × Nat):Int × Nat:=match R with | .error e=>e | .ok _=>x
def pH (E:Nat) (l:List Tk):Int × Nat:=
 if (ak E 0 l).k=1 then erO (dO E l) (5,(ak E 0 l).a)
 else if (ak E 0 l).k=2 then erO (lW E l) (5,(ak E 0 l).a)
 else if (ak E 0 l).k=3 then (5,(ak E 0 l).a)
 else if aM (ak E 0 l) (ah 45)=true∨aM (ak E 0 l) (ah 36)=true∨aM (ak E 0 l) (ah 40)=true then (5,(ak E 0 l).a)
 else (2,(ak E 0 l).a)
def tmS {α:Type} (E:Nat) (l:List Tk):Sy α:=.error (pH E l)
def iA (E:Nat) (p:Option Lv):Nat→List PT→List Tk→Sy (List PT)
 | 0,_,_=>.error (0,0)
 | f+1,o,l=>if o.length=8 then tmS E l else aR (eV E p l) fun x r=>
   if aM (ak E 0 r) (ah 44)=true then iA E p f (o++[x]) r.tail else aR (ee E (ah 41) r) fun _ q=>.ok (o++[x],q)
def mE (E:Nat) (p:Option Lv) (l:List Tk):Sy (List PT):=if aM (ak E 0 l) (ah 41)=true then .ok ([],l.tail) else iA E p 9 [] l
def kj (E:Nat) (p:Option Lv) (l:List Tk):Sy PT:=aR (dO E l) fun t r=>
 if aM (ak E 0 r) (ah 60)=true then aR (eV E p r.tail) fun x q=>aR (ee E (ah 62) q) fun _ m=>.ok (aI 4 ByteArray.empty 0 t [x],m)
 else if aM (ak E 0 r) (ah 40)=true then aR (mE E p r.tail) fun o q=>.ok (aI 6 ByteArray.empty 0 t o,q)
 else .ok (aI 3 ByteArray.empty 0 t [],r)
def fi (E:Nat) (p:Option Lv) (l:List Tk):Sy PT:=
 if (ak E 0 l).k=1 then kj E p l
 else if (ak E 0 l).k=2 then aR (lW E l) fun n r=>.ok (aI 2 ByteArray.empty n ByteArray.empty [],r)
 else if (ak E 0 l).k=3 then .ok (aI 1 (ak E 0 l).t 0 ByteArray.empty [],l.tail)
 else if aM (ak E 0 l) (ah 36)=true then aR (rJ E p l.tail) fun x r=>.ok (kl 5 [x],r)
 else aR (ee E (ah 40) l) fun _ r=>aR (eV E p r) fun x q=>aR (ee E (ah 41) q) fun _ m=>.ok (x,m)
def fC (E:Nat) (p:Option Lv) (l:List Tk):Sy PT:=
 if aM (ak E 0 l) (ah 45)=true then aR (rI E p l.tail) fun x r=>.ok (kl 7 [x],r) else fi E p l
def jU (E lv:Nat) (N:List Tk→Sy PT):Nat→PT→List Tk→Sy PT
 | 0,_,_=>.error (0,0)
 | f+1,x,l=>if gF lv (ak E 0 l)=0 then .ok (x,l) else aR (N l.tail) fun y r=>jU E lv N f (kl (gF lv (ak E 0 l)) [x,y]) r
def jT (E lv:Nat) (N:List Tk→Sy PT) (l:List Tk):Sy PT:=aR (N l) fun x r=>jU E lv N (r.length+1) x r
def kH (E:Nat) (p:Option Lv) (lv:Nat):List Tk→Sy PT:=
 if lv=1 then jT E 1 (jT E 2 (jT E 3 (fC E p))) else if lv=2 then jT E 2 (jT E 3 (fC E p)) else if lv=3 then jT E 3 (fC E p) else fC E p
def bV (E:Nat):Nat→Option Lv
 | 0=>none
 | d+1=>some ⟨fC E (bV E d),fi E (bV E d),kH E (bV E d) 1⟩
def uM (E d:Nat) (l:List Tk):Sy PT:=eV E (bV E d) l
def dj (l:List ByteArray):NL:=⟨none,0,0,l.length,l⟩
def bh:SV:=⟨ByteArray.empty,0,PT.nul,PT.nul,PT.nul,ByteArray.empty,ByteArray.empty,dj [],dj [],ByteArray.empty,ByteArray.empty,ByteArray.empty⟩
def SV.can (S:SV):SV:=⟨S.lab,S.k,S.tg.can,S.va.can,S.pa.can,S.nm,S.en,dj S.ps.l,dj S.ls.l,S.al,S.ye,S.no⟩
def mZ:ByteArray:=⟨#[68,69,70,73,78,69]⟩
def jF:ByteArray:=⟨#[58,61]⟩
def uP (E:Nat) (l:List Tk):Sy (List ByteArray):=if aM (ak E 0 l) (ah 41)=true then .ok ([],l.tail) else aR (oH E l) fun ps r=>aR (ee E (ah 41) r) fun _ q=>.ok (ps,q)
def sZ (E:Nat) (l:List Tk):Sy (List ByteArray):=if (ak E 1 l).k=1∨aM (ak E 1 l) (ah 44)=true then oH E l else .ok ([],l)
def dfS (E:Nat) (l:List Tk):Sy (ByteArray × List ByteArray × List ByteArray × ByteArray):=aR (dO E l) fun nm r=>aR (ee E (ah 40) r) fun _ r1=>aR (uP E r1) fun ps r2=>aR (sZ E r2) fun ls r3=>aR (dO E r3) fun en r4=>.ok ((nm,ps,ls,en),r4)
def uO (m g:Bool):Int:=if m=true then (if g=true then 5 else 4) else if g=true then 3 else 2
def uN (E:Nat) (l:List Tk):Sy (Option PT):=if aM (ak E 0 l) (ah 63)=true then aR (lE E l.tail) fun p r=>.ok (some p,r) else .ok (none,l)
def sY (E d:Nat) (x:PT) (at_:Nat) (l:List Tk):Sy (Option PT):=if aM (ak E 0 l) (ah 61)=true then (if lU x.k=true then aR (uM E d l.tail) fun y r=>.ok (some y,r) else .error (8,at_)) else .ok (none,l)
def evV (S:SV) (x:PT) (p g:Option PT):SV:={S with k:=uO p.isSome g.isSome,tg:=if g.isSome=true then x else PT.nul,va:=g.getD x,pa:=p.getD PT.nul}
def nS (E d:Nat) (S:SV) (l:List Tk):Sy SV:=aR (uM E d l) fun x r=>aR (uN E r) fun p r1=>aR (sY E d x (ak E 0 l).a r1) fun g r2=>.ok (evV S x p g,r2)
def et (E d:Nat) (S:SV) (l:List Tk):Sy SV:=
 if (ak E 0 l).k=0∨aM (ak E 0 l) (ah 58)=true then .ok ({S with k:=1},l)
 else if fW (ak E 0 l) mZ=true∧(ak E 1 l).k=1 then aR (dfS E l.tail) fun x r=>.ok ({S with k:=7,nm:=x.1,ps:=dj x.2.1,ls:=dj x.2.2.1,en:=x.2.2.2},r)
 else if (ak E 0 l).k=1∧aM (ak E 1 l) jF=true then aR (dO E l) fun nm r=>aR (ee E jF r) fun _ q=>aR (lE E q) fun p m=>.ok ({S with k:=6,nm:=nm,pa:=p},m)
 else nS E d S l
def jS (E:Nat) (l:List Tk):Sy ByteArray:=aR (ee E (ah 40) l) fun _ r=>aR (dO E r) fun t q=>aR (ee E (ah 41) q) fun _ m=>.ok (t,m)
def mA (E:Nat) (yes:Bool) (S:SV) (l:List Tk):Sy SV:=if fW (ak E 0 l) (ah 70)=true then aR (jS E l.tail) fun t r=>.ok ({S with no:=t},r) else if yes=true then .ok (S,l) else .error (2,(ak E 0 l).a)
def ge (E:Nat) (S:SV) (l:List Tk):Sy SV:=
 if aM (ak E 0 l) (ah 58)=true then
  (
   if aM (ak E 0 l.tail) (ah 40)=true then aR (jS E l.tail) fun t r=>.ok ({S with al:=t},r)
   else if fW (ak E 0 l.tail) (ah 83)=true then aR (jS E l.tail.tail) fun t r=>mA E true {S with ye:=t} r
   else mA E false S l.tail)
 else .ok (S,l)
def rK (s:ByteArray) (E:Nat) (l:List Tk):Sy ByteArray:=if s.size≠0∧aj s 0≠32∧aj s 0≠58 then dO E l else .ok (ByteArray.empty,l)
def oG (s:ByteArray) (l:List Tk):Sy SV:=aR (rK s s.size l) fun t r=>aR (et s.size 400 {bh with lab:=t} r) fun S q=>aR (ge s.size S q) fun S m=>if m.length=0 then .ok (S,m) else .error (2,(ak s.size 0 m).a)
def mC (s:ByteArray):Except (Int × Nat) (Option SV):=
 if aj s 0=42∧s.size≤2000 then .ok none
 else if (gc s).2.1≠0 then .error ((gc s).2.1,(gc s).2.2)
 else match oG s (gc s).1 with
  | .error e=>.error e
  | .ok x=>if x.1.tg.fits=true∧x.1.va.fits=true then .ok (some x.1) else .error (4,0)
open Go.RowKit
def At (s:ByteArray) (i:Nat) (l:List UInt8):Prop:=i≤s.size∧∃r,s.data.toList.drop i=l++r
theorem At.le {s:ByteArray} {i:Nat} {l:List UInt8} (h:At s i l):i+l.length≤s.size:=by
 obtain⟨h1,r,h2⟩:=h;have:=aJ List.length h2;simp at this;omega
theorem At.left {s:ByteArray} {i:Nat} {a b:List UInt8} (h:At s i (a++b)):At s i a:=by
 obtain⟨h1,r,h2⟩:=h;exact⟨h1,b++r,by rw[h2,gg]⟩
theorem At.right {s:ByteArray} {i:Nat} {a b:List UInt8} (h:At s i (a++b)):At s (i+a.length) b:=by
 have hl:=h.left.le;obtain⟨h1,r,h2⟩:=h;refine⟨hl,r, ?_⟩;rw[←List.drop_drop,h2,gg,List.drop_left]
theorem At.head {s:ByteArray} {i:Nat} {c:UInt8} {l:List UInt8} (h:At s i (c::l)):aj s i=c.toNat∧i < s.size:=by
 have hl:=h.le;obtain⟨h1,r,h2⟩:=h;have e:=aJ List.head? h2;rw[List.head?_drop] at e;constructor
 ·unfold aj
  rw[List.getD,e];rfl
 ·simp at hl;omega
theorem At.tail {s:ByteArray} {i:Nat} {c:UInt8} {l:List UInt8} (h:At s i (c::l)):At s (i+1) l:=At.right (a:=[c]) h
theorem At.get {s:ByteArray} {i:Nat} {l:List UInt8} (h:At s i l) {k:Nat} (hk:k < l.length):aj s (i+k)=(l[k]).toNat:=by
 obtain⟨h1,r,h2⟩:=h;have e:=aJ (fun x=>x[k]?) h2
 simp only[List.getElem?_drop] at e;rw[List.getElem?_append_left hk,jH hk] at e;unfold aj;rw[List.getD,e];rfl
theorem GI (l:List UInt8):At ⟨l.toArray⟩ 0 l:=⟨cU _,[],by simp⟩
def iZ (s:ByteArray) (j:Nat):Prop:=aj s j=32∨aj s j=41∨aj s j=0
theorem iZ.word {s:ByteArray} {j:Nat} (h:iZ s j):dF (aj s j)=false:=by
 rcases h with h | h | h <;> rw[h] <;> rfl
theorem iZ.digit {s:ByteArray} {j:Nat} (h:iZ s j):cW (aj s j)=false:=by
 rcases h with h | h | h <;> rw[h] <;> rfl
theorem iZ.quote {s:ByteArray} {j:Nat} (h:iZ s j):aj s j≠39:=by
 rcases h with h | h | h <;> rw[h] <;> decide
theorem wY {s:ByteArray} {p:Nat→Bool}:∀(n i:Nat),(∀k,k < n→i+k < s.size∧p (aj s (i+k))=true)→p (aj s (i+n))=false→dd s p i=i+n
 | 0,i,_,h=>by rw[Nat.add_zero];exact oA fun _=>h
 | n+1,i,hk,h=>by
  have h0:=hk 0 (by omega)
  rw[Nat.add_zero] at h0;rw[nJ h0.1 h0.2,wY n (i+1) (fun k hk'=>by have:=hk (k+1) (by omega);rwa [show i+1+k=i+(k+1) by omega]) (by rw[show i+1+n=i+(n+1) by omega];exact h)]
  omega
theorem wO {s:ByteArray} {i:Nat} (h:aj s i=32):sk s i=sk s (i+1):=nJ (mx (by omega)) (eW h)
theorem xY {s:ByteArray} {i:Nat} (h:aj s i=32):nx s i=nx s (i+1):=by unfold nx;rw[wO h]
theorem kF {s:ByteArray} {i:Nat} (h:aj s i≠32):nx s i=aj s i:=by unfold nx;rw[ji h]
theorem A6 {s:ByteArray} {i:Nat} {l:List UInt8} (h:At s i l):s.extract i (i+l.length)=⟨l.toArray⟩:=by
 obtain⟨h1,r,h2⟩:=h;apply ByteArray.ext;apply Array.toList_inj.1;rw[AC,Array.toList_extract,List.extract,h2];simp
theorem wdE_at {s:ByteArray} {i:Nat} {l:List UInt8} (h:At s i l) (hw:∀x ∈ l,dF x.toNat=true) (hs:iZ s (i+l.length)):bX s i=i+l.length:=
 wY l.length i (fun k hk=>⟨by have:=h.le;omega,by rw[h.get hk];exact hw _ (qz hk)⟩) hs.word
theorem J8 {s:ByteArray} {i:Nat} (h:aj s i=32):gR s i=gR s (i+1):=by unfold gR;rw[wO h,xY h]
theorem ms {nm:ByteArray} (h:bp nm=true):(∀x ∈ nm.data.toList,dF x.toNat=true)∧nm.size≤16∧∃c r,nm.data.toList=c::r∧di c.toNat=true:=by
 unfold bp at h;rw[tj] at h;obtain⟨h1,h2⟩:=h
 cases hl:nm.data.toList with
 | nil=>rw[hl] at h2;cases h2
 | cons c r=>
  rw[hl] at h2;unfold Aj at h2;rw[tj] at h2;have hc:di c.toNat=true:=by rw[←zl];exact h2.1
  refine⟨fun x hx=> ?_,mG h1,c,r,rfl,hc⟩
  rcases dU.1 hx with rfl | hx
  ·unfold dF;rw[hc];rfl
  ·have:=rQ.1 h2.2 x hx
   unfold dF;rw[←zl,←Bi];exact this
theorem Gl {s:ByteArray} {i:Nat} {nm:ByteArray} (hn:bp nm=true) (h:At s i nm.data.toList) (hs:iZ s (i+nm.size)):gR s i=.ok (nm,i+nm.size):=by
 obtain⟨hw,oR,c,r,hl,hc⟩:=ms hn;have cM:nm.data.toList.length=nm.size:=by simp
 have h0:=h;rw[hl] at h0;have hb:=h0.head.1;have bo:aj s i≠32:=fun e=>by rw[hb] at e;rw[e] at hc;exact absurd hc (by decide)
 have hE:=wdE_at h hw (by rw[cM];exact hs)
 rw[cM] at hE;unfold gR;rw[ji bo,kF bo,hb,af hc,hE,ac (by omega)]
 have:=A6 h;rw[cM] at this;rw[this]
theorem yE {s:ByteArray}:∀(l:List UInt8) (i:Nat),At s i ((l.flatMap fun c=>if c=39 then [39,39] else [c])++[39])→aj s (i+(l.flatMap fun c=>if c=39 then [39,39] else [c]).length+1)≠39→
  cq s i=i+(l.flatMap fun c=>if c=39 then [39,39] else [c]).length∧ct s i=l
 | [],i,h,hs=>by
  have hb:=h.head.1;exact⟨ym hb hs,yl hb hs⟩
 | c::l,i,h,hs=>by
  rw[ia] at h hs ⊢
  by_cases hc:c=39
  ·rw[af hc] at h hs ⊢
   have h1:=h.head.1;have h2:=h.tail.head.1;have ih:=yE l (i+2) h.tail.tail (by rw[show i+2+(l.flatMap fun c=>if c=39 then [39,39] else [c]).length+1=i+([39,39]++(l.flatMap fun c=>if c=39 then [39,39] else [c])).length+1 by simp;omega];exact hs)
   rw[yx h1 h2,yw h1 h2,ih.1,ih.2,hc];exact⟨by simp;omega,rfl⟩
  ·rw[ac hc] at h hs ⊢
   have h1:=h.head;have bo:aj s i≠39:=fun e=>hc (by rw[h1.1] at e;exact tm.1 e)
   have ih:=yE l (i+1) h.tail (by rw[show i+1+(l.flatMap fun c=>if c=39 then [39,39] else [c]).length+1=i+([c]++(l.flatMap fun c=>if c=39 then [39,39] else [c])).length+1 by simp;omega];exact hs)
   have hg:s.data.toList.getD i 0=c:=tm.1 h1.1;rw[yc h1.2 bo,yb h1.2 bo,ih.1,ih.2,hg];exact⟨by simp;omega,rfl⟩
theorem F1 {s:ByteArray} {i:Nat} {t:ByteArray} (h:At s i (eC t.data.toList)) (hs:iZ s (i+(eC t.data.toList).length)):jV s i=.ok (t,i+(eC t.data.toList).length):=by
 have eI:=h.le;have hl:(eC t.data.toList).length=(t.data.toList.flatMap fun c=>if c=39 then [39,39] else [c]).length+2:=by unfold eC;simp
 have h2:At s (i+1) ((t.data.toList.flatMap fun c=>if c=39 then [39,39] else [c])++[39]):=h.tail
 have hq:=yE t.data.toList (i+1) h2 (by rw[show i+1+(t.data.toList.flatMap fun c=>if c=39 then [39,39] else [c]).length+1=i+(eC t.data.toList).length by omega];exact hs.quote)
 unfold jV;rw[hq.1,hq.2,af (by omega),hl]
 congr 2
 omega
theorem fiP_at {s:ByteArray} {i:Nat} {t:ByteArray} (h:At s i (eC t.data.toList)) (ht:t.size≠0) (hs:iZ s (i+(eC t.data.toList).length)):lH s i=.ok (t,i+(eC t.data.toList).length):=by
 have hb:aj s i=39:=(At.head (l:=_) h).1;unfold lH;rw[kF (by omega),ji (by omega),hb,af rfl,F1 h hs,dE,ac ht]
theorem zA:∀(n u:Nat),u < n→∀x ∈ Lib.decDigits u,cW x.toNat=true
 | 0,u,h,_,_=>by omega
 | n+1,u,h,x,hx=>by
  rw[Lib.decDigits] at hx
  by_cases q:u < 10
  ·rw[dif_pos q,fE] at hx
   subst hx;unfold cW;rw[uT];exact eW (by omega)
  ·rw[dif_neg q,rR,fE] at hx
   rcases hx with hx | rfl
   ·exact zA n (u / 10) (by omega) x hx
   ·unfold cW
    rw[uT];exact eW (by omega)
theorem Fx {s:ByteArray} {i:Nat}:∀(n u:Nat),u < n→u≤65536→At s i (Lib.decDigits u)→kW s i (Lib.decDigits u).length=u
 | 0,u,h,_,_=>by omega
 | n+1,u,h,hu,ha=>by
  by_cases q:u < 10
  ·have e:Lib.decDigits u=[UInt8.ofNat (48+u)]:=by rw[Lib.decDigits,dif_pos q]
   rw[e] at ha ⊢;have hb:=ha.head.1;rw[uT] at hb;show min (10 * 0+(aj s (i+0) - 48)) 65537=u;rw[Nat.add_zero,hb];omega
  ·have e:Lib.decDigits u=Lib.decDigits (u / 10)++[UInt8.ofNat (48+u % 10)]:=by rw[Lib.decDigits,dif_neg q]
   rw[e] at ha ⊢;have ih:=Fx n (u / 10) (by omega) (by omega) ha.left
   have hb:=ha.right.head.1;rw[uT] at hb;rw[bg,List.length_singleton];show min (10 * kW s i (Lib.decDigits (u / 10)).length+(aj s (i+(Lib.decDigits (u / 10)).length) - 48)) 65537=u;rw[ih,hb];omega
theorem Bv:∀(n u:Nat),u < n→10≤u→∃c r,Lib.decDigits u=c::r∧c.toNat≠48
 | 0,u,h,_=>by omega
 | n+1,u,h,hu=>by
  have e:Lib.decDigits u=Lib.decDigits (u / 10)++[UInt8.ofNat (48+u % 10)]:=by rw[Lib.decDigits,dif_neg (by omega)]
  by_cases q:u / 10 < 10
  ·have e2:Lib.decDigits (u / 10)=[UInt8.ofNat (48+u / 10)]:=by rw[Lib.decDigits,dif_pos q]
   refine⟨_,_,by rw[e,e2];rfl, ?_⟩
   rw[uT];omega
  ·obtain⟨c,r,h1,h2⟩:=Bv n (u / 10) (by omega) (by omega)
   exact⟨c,r++[UInt8.ofNat (48+u % 10)],by rw[e,h1];rfl,h2⟩
theorem Fw (u:Nat):0 < (Lib.decDigits u).length:=by rw[Lib.decDigits_length];exact Lib.nDigits_pos u
theorem nuP_at {s:ByteArray} {i:Nat} {n:Int} (h0:0≤n) (hn:n≤65536) (h:At s i (Lib.itoa n)) (hs:iZ s (i+(Lib.itoa n).length)):mB s i=.ok (n.toNat,i+(Lib.itoa n).length):=by
 have e:Lib.itoa n=Lib.decDigits n.toNat:=by unfold Lib.itoa;rw[ac (by omega)]
 rw[e] at h hs ⊢;generalize hu:n.toNat=u at *;have hu2:u≤65536:=by omega
 have hd:=zA (u+1) u (by omega)
 have hl:=Fw u;have aZ:=h.get (k:=0) hl;rw[Nat.add_zero] at aZ;have hdg:cW (aj s i)=true:=by rw[aZ];exact hd _ (qz hl)
 have bo:aj s i≠32:=fun e=>by rw[e] at hdg;exact absurd hdg (by decide)
 have hE:iX s i=i+(Lib.decDigits u).length:=wY _ i (fun k hk=>⟨by have:=h.le;omega,by rw[h.get hk];exact hd _ (qz hk)⟩) hs.digit
 have hc:=Fx (u+1) u (by omega) hu2 h
 unfold mB;rw[ji bo,kF bo,af hdg,hE,Nat.add_sub_cancel_left,hc,ac,ac (by omega)]
 rintro⟨h48,au⟩
 by_cases q:10≤u
 ·obtain⟨c,r,e1,e2⟩:=Bv (u+1) u (by omega) q
  rw[e1] at h;exact e2 (by rw[←h.head.1];exact h48)
 ·have:(Lib.decDigits u).length=1:=by rw[Lib.decDigits,dif_pos (by omega)];rfl
  omega
theorem Jo:∀k,(2≤k∧k≤17)∨k=20→iL (aQ k)=k:=by
 have key:∀k:Fin 21,((2≤k.val∧k.val≤17)∨k.val=20)→iL (aQ k.val)=k.val:=by decide+kernel
 intro k hk;exact key ⟨k,by omega⟩ hk
theorem Dz:∀k,(2≤k∧k≤17)∨k=20→(∀x ∈ (aQ k).data.toList,dF x.toNat=true)∧(∃c r,(aQ k).data.toList=c::r∧di c.toNat=true):=by
 have key:∀k:Fin 21,((2≤k.val∧k.val≤17)∨k.val=20)→((aQ k.val).data.toList.all (fun x=>dF x.toNat)=true∧di ((aQ k.val).data.toList.headD 0).toNat=true∧(aQ k.val).data.toList≠[]):=by decide+kernel
 intro k hk;obtain⟨h1,h2,h3⟩:=key ⟨k,by omega⟩ hk
 refine⟨fun x hx=>rQ.1 h1 x hx, ?_⟩
 cases hl:(aQ k).data.toList with
 | nil=>exact absurd hl h3
 | cons c r=>rw[hl] at h2;exact⟨c,r,rfl,h2⟩
end Go.Proofs.YtlmnjbipfacniaaGreatDoor
