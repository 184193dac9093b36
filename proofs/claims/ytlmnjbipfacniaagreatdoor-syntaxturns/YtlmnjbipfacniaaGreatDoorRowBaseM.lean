/- Patterns without where they lie. Runs of bytes, and texts in -/
import Derived.Test.YtlmnjbipfacniaaGreatDoorPatWrongP
import Derived.Test.YtlmnjbipfacniaaGreatDoorPatBaseM
import Derived.Test.YtlmnjbipfacniaaGreatDoorPatSizeP
import Derived.Maps.AppendAt
namespace Go.Proofs.YtlmnjbipfacniaaGreatDoor
open Go.Proofs.Tryz
open Go.RowKit
def aI (k:Int) (t:ByteArray) (n:Int) (nm:ByteArray) (l:List PT):PT:=⟨k,t,n,nm,none,0,0,l.length,l.length,fun i=>l[i]⟩
def PT.lst (T:PT):List PT:=List.ofFn T.kids
def PT.can:PT→PT
 | .node k t n nm _ _ _ _ _ kids=>aI k t n nm (List.ofFn fun i=>PT.can (kids i))
theorem PT.can_eq (T:PT):T.can=aI T.k T.t T.n T.nm (T.lst.map PT.can):=by
 obtain⟨k,t,n,nm,xa,b,o,len,cap,kids⟩:=T;show aI k t n nm (List.ofFn fun i=>PT.can (kids i))=aI k t n nm ((List.ofFn kids).map PT.can)
 rw[List.map_ofFn];rfl
theorem PT.lst_len (T:PT):T.lst.length=T.len:=by unfold PT.lst;simp
theorem PT.lst_at {T:PT} {i:Nat} (h:i < T.len):T.lst[i]? =some (T.kid i):=by
 unfold PT.lst;rw[List.getElem?_ofFn,dif_pos h,PT.kid_at h]
theorem wZ (k:Int) (t:ByteArray) (n:Int) (nm:ByteArray) (l:List PT):(aI k t n nm l).lst=l:=by
 unfold PT.lst aI;exact List.ofFn_getElem
theorem rF (T:PT):T.can.k=T.k:=by rw[PT.can_eq];rfl
theorem xr (T:PT):T.can.t=T.t:=by rw[PT.can_eq];rfl
theorem xt (T:PT):T.can.n=T.n:=by rw[PT.can_eq];rfl
theorem xl (T:PT):T.can.nm=T.nm:=by rw[PT.can_eq];rfl
theorem sN (T:PT):T.can.lst=T.lst.map PT.can:=by rw[PT.can_eq,wZ]
theorem sG {P:PT→Prop} (h:∀T:PT,(∀x ∈ T.lst,P x)→P T):∀T,P T:=PT.ind fun T ih=>h T fun x hx=>by
 obtain⟨i,hi⟩:=List.mem_iff_getElem?.1 hx;have au:i < T.len:=by have:=(rN.1 hi).1;rwa [PT.lst_len] at this
 rw[PT.lst_at au] at hi;rw[←k8 hi];exact ih i au
def yH:List PT→Nat
 | []=>0
 | x::l=>x.cnt+yH l
def nQ:List PT→Nat
 | []=>0
 | x::l=>max x.dep (nQ l)
theorem DC (f:PT→Nat):∀(l:List PT) (n:Nat),n≤l.length→eU (fun i=>f (l.getD i PT.nul)) n=((l.take n).map f).sum
 | l,0,_=>by simp[eU]
 | l,n+1,h=>by
  rw[eU,DC f l n (by omega),List.take_succ_eq_append_getElem (by omega),qA,List.sum_append]
  simp[List.getD_eq_getElem?_getD,List.getElem?_eq_getElem (show n < l.length by omega)]
theorem uv:∀l,yH l=(l.map PT.cnt).sum
 | []=>rfl
 | x::l=>by rw[yH,ib,List.sum_cons,uv l]
theorem Nj (T:PT) (i:Nat):T.kid i=T.lst.getD i PT.nul:=by
 by_cases h:i < T.len
 ·rw[AA,PT.lst_at h];rfl
 ·rw[AA,xB (by rw[PT.lst_len];omega)]
  unfold PT.kid;rw[dif_neg h];rfl
theorem yn (T:PT):T.cnt=1+yH T.lst:=by
 rw[T.cnt_eq,uv];have:=DC PT.cnt T.lst T.len (by rw[PT.lst_len];exact ax _)
 rw[AD (by rw[PT.lst_len];exact ax _)] at this
 rw[←this];exact aJ (1+ ·) (A0 _ fun i _=>by rw[Nj])
theorem Fv {d:Nat}:∀{l:List PT},(∀x ∈ l,x.dep≤d)→nQ l≤d
 | [],_=>cU _
 | x::l,h=>by
  have h1:=h x uU;have h2:=Fv (l:=l) fun y hy=>h y (lY _ hy)
  rw[nQ];omega
theorem BV:∀{l:List PT} {x:PT},x ∈ l→x.dep≤nQ l
 | y::l,x,h=>by
  rw[nQ];rcases dU.1 h with rfl | h
  ·omega
  ·have:=BV h;omega
theorem El (f:Nat→Nat) (d:Nat):∀n,(∀i,i < n→f i≤d)→jk f n≤d
 | 0,_=>cU _
 | n+1,h=>by
  have h1:=El f d n fun i hi=>h i (by omega)
  have h2:=h n (by omega)
  rw[jk];omega
theorem Es (f:Nat→Nat):∀n i,i < n→f i≤jk f n
 | n+1,i,h=>by
  rw[jk];rcases cX i n with q | q
  ·have:=Es f n i q;omega
  ·obtain rfl:i=n:=by omega
   omega
theorem xc (T:PT):T.dep=1+nQ T.lst:=by
 rw[T.dep_eq];have h1:jk (fun i=>(T.kid i).dep) T.len≤nQ T.lst:=El _ _ _ fun i hi=>BV (rO (PT.lst_at hi))
 have h2:nQ T.lst≤jk (fun i=>(T.kid i).dep) T.len:=Fv fun x hx=>by
  obtain⟨i,hi⟩:=List.mem_iff_getElem?.1 hx;have au:i < T.len:=by have:=(rN.1 hi).1;rwa [PT.lst_len] at this
  rw[PT.lst_at au] at hi;rw[←k8 hi];exact Es (fun i=>(T.kid i).dep) T.len i au
 omega
theorem Fe (k:Int) (t:ByteArray) (n:Int) (nm:ByteArray) (l:List PT):(aI k t n nm l).cnt=1+yH l:=by rw[yn,wZ]
theorem Fd (k:Int) (t:ByteArray) (n:Int) (nm:ByteArray) (l:List PT):(aI k t n nm l).dep=1+nQ l:=by rw[xc,wZ]
theorem uw (T:PT):T.can.len=T.len:=by rw[←PT.lst_len,sN,uW,PT.lst_len]
theorem Ac:∀T:PT,T.can.cnt=T.cnt:=sG fun T ih=>by
 rw[yn,yn T,sN,uv,uv,uY];exact aJ (fun l=>1+List.sum l) (uS fun x hx=>ih x hx)
theorem zL {f:PT→PT}:∀{l:List PT},(∀x ∈ l,(f x).dep=x.dep)→nQ (l.map f)=nQ l
 | [],_=>rfl
 | x::l,h=>by rw[ib,nQ,nQ,h x uU,zL fun y hy=>h y (lY _ hy)]
theorem Ab:∀T:PT,T.can.dep=T.dep:=sG fun T ih=>by
 rw[xc,xc T,sN,zL ih]
theorem Ny (T:PT):bI T.can=bI T:=by
 unfold bI;rw[rF,xr,xt,xl,uw]
theorem NA:∀T:PT,T.can.bad=T.bad:=sG fun T ih=>by
 rw[T.can.bad_eq,T.bad_eq,Ny,uw];have hk:∀i,i < T.len→(T.can.kid i).bad=(T.kid i).bad:=fun i hi=>by
  have h1:=PT.lst_at hi;have h2:T.can.lst[i]? =some (T.can.kid i):=PT.lst_at (by rw[uw];exact hi)
  rw[sN,rP,h1] at h2;rw[←k8 h2];exact ih _ (rO h1)
 rw[xJ T.len hk]
theorem Kp (T:PT):T.can.wrong=T.wrong:=by
 unfold PT.wrong PT.fits;rw[NA,Ac,Ab]
theorem DU {A B:PT} (h:A.can=B.can):B.k=A.k∧B.t=A.t∧B.n=A.n∧B.nm=A.nm∧B.len=A.len∧∀j,j < A.len→(A.kid j).can=(B.kid j).can:=by
 have hl:B.len=A.len:=by rw[←uw,←h,uw]
 refine⟨by rw[←rF,←h,rF],by rw[←xr,←h,xr],by rw[←xt,←h,xt],by rw[←xl,←h,xl],hl,fun j hj=> ?_⟩
 have e:A.lst.map PT.can=B.lst.map PT.can:=by rw[←sN,h,sN]
 have e2:=aJ (fun l=>l[j]?) e
 simp only[rP] at e2;rw[PT.lst_at hj,PT.lst_at (by omega)] at e2
 exact k8 e2
open Go.RowKit
theorem pz (s:ByteArray) (i:Nat) (h:s.size≤i):aj s i=0:=by
 unfold aj;have:s.data.toList.length≤i:=by simpa using h
 rw[List.getD,xB this];rfl
theorem mx {s:ByteArray} {i:Nat} (h:aj s i≠0):i < s.size:=by
 by_cases k:i < s.size
 ·exact k
 ·exact absurd (pz s i (by omega)) h
def nO (s:ByteArray) (p:Nat→Bool):Nat→Nat→Nat
 | 0,i=>i
 | f+1,i=>if i < s.size∧p (aj s i)=true then nO s p f (i+1) else i
def dd (s:ByteArray) (p:Nat→Bool) (i:Nat):Nat:=nO s p (s.size - i) i
theorem nJ {s:ByteArray} {p:Nat→Bool} {i:Nat} (h:i < s.size) (hp:p (aj s i)=true):dd s p i=dd s p (i+1):=by
 unfold dd;rw[show s.size - i=(s.size - (i+1))+1 by omega,nO,af ⟨h,hp⟩]
theorem oA {s:ByteArray} {p:Nat→Bool} {i:Nat} (h:i < s.size→p (aj s i)=false):dd s p i=i:=by
 unfold dd
 cases hq:s.size - i with
 | zero=>rfl
 | succ f=>rw[nO,ac];rintro⟨h1,h2⟩;rw[h h1] at h2;cases h2
theorem E4 (s:ByteArray) (p:Nat→Bool):∀f i,i≤s.size→i≤nO s p f i∧nO s p f i≤s.size
 | 0,i,h=>⟨ax _,h⟩
 | f+1,i,h=>by
  rw[nO];split
  ·rename_i hc
   have:=E4 s p f (i+1) (by omega)
   omega
  ·exact⟨ax _,h⟩
theorem mW (s:ByteArray) (p:Nat→Bool) (i:Nat) (h:i≤s.size):i≤dd s p i∧dd s p i≤s.size:=E4 s p _ i h
theorem D7 (s:ByteArray) (p:Nat→Bool):∀f i,∀j,i≤j→j < nO s p f i→p (aj s j)=true
 | 0,i,j,h1,h2=>by rw[nO] at h2;omega
 | f+1,i,j,h1,h2=>by
  rw[nO] at h2;split at h2
  ·rename_i hc
   by_cases hj:j=i
   ·subst hj;exact hc.2
   ·exact D7 s p f (i+1) j (by omega) h2
  ·omega
theorem E3 {s:ByteArray} {p:Nat→Bool} {i:Nat} (j:Nat) (h1:i≤j) (h2:j < dd s p i):p (aj s j)=true:=D7 s p _ i j h1 h2
theorem DM (s:ByteArray) (p:Nat→Bool):∀f i,s.size≤f+i→nO s p f i < s.size→p (aj s (nO s p f i))=false
 | 0,i,h,h2=>by rw[nO] at h2;omega
 | f+1,i,h,h2=>by
  rw[nO] at h2 ⊢;split
  ·rename_i hc;rw[af hc] at h2;exact DM s p f (i+1) (by omega) h2
  ·rename_i hc
   rw[ac hc] at h2
   cases hp:p (aj s i)
   ·rfl
   ·exact absurd ⟨h2,hp⟩ hc
theorem zF {s:ByteArray} {p:Nat→Bool} {i:Nat} (h:dd s p i < s.size):p (aj s (dd s p i))=false:=DM s p _ i (by omega) h
def pJ (s:ByteArray):Nat→Nat→Nat
 | 0,_=>s.size
 | f+1,i=>if i < s.size then (if aj s i=39 then (if aj s (i+1)=39 then pJ s f (i+2) else i) else pJ s f (i+1)) else s.size
def pI (s:ByteArray):Nat→Nat→List UInt8
 | 0,_=>[]
 | f+1,i=>if i < s.size then (if aj s i=39 then (if aj s (i+1)=39 then 39::pI s f (i+2) else []) else s.data.toList.getD i 0::pI s f (i+1)) else []
theorem Bx (s:ByteArray):∀f g i,s.size≤f+i→s.size≤g+i→pJ s f i=pJ s g i
 | 0,0,i,_,_=>rfl
 | 0,g+1,i,h,_=>by rw[pJ,pJ,ac (by omega)]
 | f+1,0,i,_,h=>by rw[pJ,pJ,ac (by omega)]
 | f+1,g+1,i,h1,h2=>by
  rw[pJ,pJ,Bx s f g (i+2) (by omega) (by omega),Bx s f g (i+1) (by omega) (by omega)]
theorem Bw (s:ByteArray):∀f g i,s.size≤f+i→s.size≤g+i→pI s f i=pI s g i
 | 0,0,i,_,_=>rfl
 | 0,g+1,i,h,_=>by rw[pI,pI,ac (by omega)]
 | f+1,0,i,_,h=>by rw[pI,pI,ac (by omega)]
 | f+1,g+1,i,h1,h2=>by
  rw[pI,pI,Bw s f g (i+2) (by omega) (by omega),Bw s f g (i+1) (by omega) (by omega)]
def cq (s:ByteArray) (i:Nat):Nat:=pJ s s.size i
def ct (s:ByteArray) (i:Nat):List UInt8:=pI s s.size i
theorem Ar (s:ByteArray) (i:Nat):cq s i=if i < s.size then (if aj s i=39 then (if aj s (i+1)=39 then cq s (i+2) else i) else cq s (i+1)) else s.size:=by
 unfold cq;rw[Bx s s.size (s.size+1) i (by omega) (by omega),pJ]
theorem Aq (s:ByteArray) (i:Nat):ct s i=if i < s.size then (if aj s i=39 then (if aj s (i+1)=39 then 39::ct s (i+2) else []) else s.data.toList.getD i 0::ct s (i+1)) else []:=by
 unfold ct;rw[Bw s s.size (s.size+1) i (by omega) (by omega),pI]
theorem yz {s:ByteArray} {i:Nat} (h:s.size≤i):cq s i=s.size:=by rw[Ar,ac (by omega)]
theorem yc {s:ByteArray} {i:Nat} (h:i < s.size) (hb:aj s i≠39):cq s i=cq s (i+1):=by rw[Ar,af h,ac hb]
theorem yx {s:ByteArray} {i:Nat} (hb:aj s i=39) (hc:aj s (i+1)=39):cq s i=cq s (i+2):=by rw[Ar,af (mx (by omega)),af hb,af hc]
theorem ym {s:ByteArray} {i:Nat} (hb:aj s i=39) (hc:aj s (i+1)≠39):cq s i=i:=by rw[Ar,af (mx (by omega)),af hb,ac hc]
theorem GD {s:ByteArray} {i:Nat} (h:s.size≤i):ct s i=[]:=by rw[Aq,ac (by omega)]
theorem yb {s:ByteArray} {i:Nat} (h:i < s.size) (hb:aj s i≠39):ct s i=s.data.toList.getD i 0::ct s (i+1):=by rw[Aq,af h,ac hb]
theorem yw {s:ByteArray} {i:Nat} (hb:aj s i=39) (hc:aj s (i+1)=39):ct s i=39::ct s (i+2):=by rw[Aq,af (mx (by omega)),af hb,af hc]
theorem yl {s:ByteArray} {i:Nat} (hb:aj s i=39) (hc:aj s (i+1)≠39):ct s i=[]:=by rw[Aq,af (mx (by omega)),af hb,ac hc]
theorem xk {s:ByteArray} {P:Nat→Prop} (h0:∀i,s.size≤i→P i) (h1:∀i,i < s.size→aj s i≠39→P (i+1)→P i) (h2:∀i,aj s i=39→aj s (i+1)=39→P (i+2)→P i) (h3:∀i,aj s i=39→aj s (i+1)≠39→P i):∀f i,s.size≤f+i→P i
 | 0,i,h=>h0 i (by omega)
 | f+1,i,h=>by
  rcases cX i s.size with hi | hi
  ·by_cases hb:aj s i=39
   ·by_cases hc:aj s (i+1)=39
    ·exact h2 i hb hc (xk h0 h1 h2 h3 f (i+2) (by omega))
    ·exact h3 i hb hc
   ·exact h1 i hi hb (xk h0 h1 h2 h3 f (i+1) (by omega))
  ·exact h0 i hi
theorem rE (s:ByteArray) (i:Nat) (h:i≤s.size):i≤cq s i∧cq s i≤s.size:=
 xk (P:=fun i=>i≤s.size→i≤cq s i∧cq s i≤s.size) (fun i hi h=>by rw[yz hi];omega) (fun i hi hb ih h=>by rw[yc hi hb];have:=ih (by omega);omega)
  (fun i hb hc ih h=>by rw[yx hb hc];have:=mx (s:=s) (i:=i+1) (by omega);have:=ih (by omega);omega) (fun i hb hc h=>by rw[ym hb hc];omega) s.size i (by omega) h
def d5 (b:Nat):Bool:=decide (b=32)
def dF (b:Nat):Bool:=di b || cW b
open Go.RowKit
abbrev Rd (α:Type):=Except (Int × Nat) (α × Nat)
def bO {α β:Type} (r:Rd α) (f:α→Nat→Rd β):Rd β:=
 match r with
 | .ok (a,j)=>f a j
 | .error e=>.error e
theorem dE {α β:Type} (a:α) (j:Nat) (f:α→Nat→Rd β):bO (.ok (a,j)) f=f a j:=rfl
theorem jA {α β:Type} (e:Int × Nat) (f:α→Nat→Rd β):bO (.error e) f=.error e:=rfl
theorem ec {α β:Type} {r:Rd α} {f:α→Nat→Rd β} {x:β × Nat} (h:bO r f=.ok x):∃a j,r=.ok (a,j)∧f a j=.ok x:=by
 cases r with
 | ok v=>exact⟨v.1,v.2,rfl,h⟩
 | error e=>cases h
def sk (s:ByteArray) (i:Nat):Nat:=dd s d5 i
def nx (s:ByteArray) (i:Nat):Nat:=aj s (sk s i)
theorem eM (s:ByteArray) (i:Nat) (h:i≤s.size):i≤sk s i∧sk s i≤s.size:=mW s d5 i h
theorem nx_ne (s:ByteArray) (i:Nat):nx s i≠32:=by
 unfold nx sk
 by_cases h:dd s d5 i < s.size
 ·have:=zF h
  unfold d5 at this;exact xC this
 ·rw[pz s _ (by omega)];decide
theorem ji {s:ByteArray} {i:Nat} (h:aj s i≠32):sk s i=i:=oA fun _=>dh h
theorem CC (s:ByteArray) (i:Nat):sk s (sk s i)=sk s i:=ji (nx_ne s i)
theorem G1 (s:ByteArray) (i:Nat):nx s (sk s i)=nx s i:=by unfold nx;rw[CC]
theorem kU {s:ByteArray} {i:Nat} (h:nx s i≠0):sk s i < s.size:=mx h
def eF (s:ByteArray) (c i:Nat):Rd Unit:=if nx s i=c then .ok ((),sk s i+1) else .error (2,sk s i)
def bX (s:ByteArray) (j:Nat):Nat:=dd s dF j
def gR (s:ByteArray) (i:Nat):Rd ByteArray:=
 if di (nx s i)=true then (if 16 < bX s (sk s i) - sk s i then .error (7,sk s i) else .ok (s.extract (sk s i) (bX s (sk s i)),bX s (sk s i))) else .error (2,sk s i)
def kW (s:ByteArray) (j:Nat):Nat→Nat
 | 0=>0
 | k+1=>min (10 * kW s j k+(aj s (j+k) - 48)) 65537
def iX (s:ByteArray) (j:Nat):Nat:=dd s cW j
def mB (s:ByteArray) (i:Nat):Rd Nat:=
 if cW (nx s i)=true then
  (
   if aj s (sk s i)=48∧sk s i+1 < iX s (sk s i) then .error (2,sk s i+1)
   else if 65536 < kW s (sk s i) (iX s (sk s i) - sk s i) then .error (3,sk s i)
   else .ok (kW s (sk s i) (iX s (sk s i) - sk s i),iX s (sk s i)))
 else .error (2,sk s i)
def jV (s:ByteArray) (j:Nat):Rd ByteArray:=if cq s (j+1) < s.size then .ok (⟨(ct s (j+1)).toArray⟩,cq s (j+1)+1) else .error (2,s.size)
def lH (s:ByteArray) (i:Nat):Rd ByteArray:=
 if nx s i=39 then bO (jV s (sk s i)) fun t e=>if t.size=0 then .error (8,sk s i) else .ok (t,e) else .error (2,sk s i)
def jE (t:ByteArray):Nat→Nat
 | 0=>0
 | n+1=>if jE t n≠0 then jE t n else if aQ (n+1)=t then n+1 else 0
def iL (t:ByteArray):Nat:=jE t 24
def jD (d:Nat) (B:Nat→Rd PT) (s:ByteArray) (i:Nat):Rd PT:=
 bO (eF s 40 i) fun _ j=>if d=0 then .error (4,j) else bO (B j) fun p k=>bO (eF s 41 k) fun _ m=>.ok (p,m)
def fB (d:Nat) (B:Nat→Rd PT) (s:ByteArray) (j:Nat):Rd PT:=
 if iL (s.extract j (bX s j))=0 then .error (7,j)
 else if iL (s.extract j (bX s j))=20 then bO (jD d B s (bX s j)) fun p m=>.ok (aI 20 ⟨#[]⟩ 0 ⟨#[]⟩ [p],m)
 else if aE (iL (s.extract j (bX s j)))=2 then bO (eF s 40 (bX s j)) fun _ a=>bO (mB s a) fun n b=>bO (eF s 41 b) fun _ c=>.ok (aI (iL (s.extract j (bX s j))) ⟨#[]⟩ n ⟨#[]⟩ [],c)
 else if aE (iL (s.extract j (bX s j)))=1 then bO (eF s 40 (bX s j)) fun _ a=>bO (lH s a) fun t b=>bO (eF s 41 b) fun _ c=>.ok (aI (iL (s.extract j (bX s j))) t 0 ⟨#[]⟩ [],c)
 else .ok (aI (iL (s.extract j (bX s j))) ⟨#[]⟩ 0 ⟨#[]⟩ [],bX s j)
def jG (d:Nat) (B:Nat→Rd PT) (s:ByteArray) (i:Nat):Rd PT:=
 if nx s i=39 then bO (jV s (sk s i)) fun t e=>.ok (aI 1 t 0 ⟨#[]⟩ [],e)
 else if nx s i=40 then jD d B s (sk s i)
 else if nx s i=64 then bO (gR s (sk s i+1)) fun t e=>.ok (aI 23 ⟨#[]⟩ 0 t [],e)
 else if nx s i=42 then bO (gR s (sk s i+1)) fun t e=>.ok (aI 24 ⟨#[]⟩ 0 t [],e)
 else if di (nx s i)=true then fB d B s (sk s i)
 else .error (2,sk s i)
def iO (b:Nat):Nat:=if b=46 then 21 else if b=36 then 22 else 0
def iP (s:ByteArray):Nat→PT→Nat→Rd PT
 | 0,_,i=>.error (0,i)
 | f+1,p,i=>if iO (nx s i)=0 then .ok (p,sk s i) else bO (gR s (sk s i+1)) fun t e=>iP s f (aI (iO (nx s i)) ⟨#[]⟩ 0 t [p]) e
def gQ (d:Nat) (B:Nat→Rd PT) (s:ByteArray) (i:Nat):Rd PT:=bO (jG d B s i) fun p j=>iP s (s.size+1) p j
def kg (b:Nat):Bool:=di b || decide (b=39) || decide (b=40) || decide (b=64) || decide (b=42)
def lF (d:Nat) (B:Nat→Rd PT) (s:ByteArray):Nat→List PT→Nat→Rd (List PT)
 | 0,_,i=>.error (0,i)
 | f+1,l,i=>if kg (nx s i)=true then bO (gQ d B s (sk s i)) fun p j=>lF d B s f (l++[p]) j else .ok (l,sk s i)
def iw (k:Int) (l:List PT):PT:=
 match l with
 | [x]=>x
 | l=>aI k ⟨#[]⟩ 0 ⟨#[]⟩ l
def im (d:Nat) (B:Nat→Rd PT) (s:ByteArray) (i:Nat):Rd PT:=bO (gQ d B s i) fun p j=>bO (lF d B s (s.size+1) [p] j) fun l e=>.ok (iw 18 l,e)
def lI (d:Nat) (B:Nat→Rd PT) (s:ByteArray):Nat→List PT→Nat→Rd (List PT)
 | 0,_,i=>.error (0,i)
 | f+1,l,i=>if nx s i=124 then bO (im d B s (sk s i+1)) fun p j=>lI d B s f (l++[p]) j else .ok (l,sk s i)
def lX (d:Nat) (B:Nat→Rd PT) (s:ByteArray) (i:Nat):Rd PT:=bO (im d B s i) fun p j=>bO (lI d B s (s.size+1) [p] j) fun l e=>.ok (iw 19 l,e)
def iY (s:ByteArray):Nat→Nat→Rd PT
 | 0,i=>lX 0 (fun j=>.error (0,j)) s i
 | d+1,i=>lX (d+1) (iY s d) s i
def m5 (s:ByteArray):Rd PT:=bO (iY s 200 0) fun p j=>if j < s.size then .error (2,j) else .ok (p,j)
def jq (s:ByteArray):Rd PT:=if 65536 < s.size then .error (4,0) else bO (m5 s) fun p j=>if p.fits=true then .ok (p,j) else .error (4,0)
def eG {α:Type} (s:ByteArray) (P:Nat→Rd α):Prop:=∀i x j,i≤s.size→P i=.ok (x,j)→i < j∧j≤s.size
theorem nH (s:ByteArray) (c:Nat) (hc:c≠0):eG s (eF s c):=fun i x j hi h=>by
 unfold eF at h
 by_cases q:nx s i=c
 ·rw[af q] at h
  have h1:=kU (s:=s) (i:=i) (by omega)
  have h2:=eM s i hi;injection h with h;injection h with _ h
  omega
 ·rw[ac q] at h;cases h
theorem px {s:ByteArray} {j:Nat} (h:di (aj s j)=true):j < bX s j∧bX s j≤s.size:=by
 have hj:j < s.size:=by
  by_cases q:j < s.size
  ·exact q
  ·rw[pz s j (by omega)] at h;exact absurd h (by decide)
 unfold bX;rw[nJ hj (by unfold dF;rw[h];rfl)]
 have:=mW s dF (j+1) (by omega)
 omega
theorem BY {s:ByteArray} {j:Nat} (h:cW (aj s j)=true):j < iX s j∧iX s j≤s.size:=by
 have hj:j < s.size:=by
  by_cases q:j < s.size
  ·exact q
  ·rw[pz s j (by omega)] at h;exact absurd h (by decide)
 unfold iX;rw[nJ hj h];have:=mW s cW (j+1) (by omega)
 omega
theorem v8 (s:ByteArray):eG s (gR s):=fun i x j hi h=>by
 unfold gR at h
 by_cases q:di (nx s i)=true
 ·rw[af q] at h
  have h1:=px (s:=s) (j:=sk s i) q;have h2:=eM s i hi
  by_cases r:16 < bX s (sk s i) - sk s i
  ·rw[af r] at h;cases h
  ·rw[ac r] at h
   injection h with h;injection h with _ h
   omega
 ·rw[ac q] at h;cases h
theorem zS (s:ByteArray):eG s (mB s):=fun i x j hi h=>by
 unfold mB at h
 by_cases q:cW (nx s i)=true
 ·rw[af q] at h
  have h1:=BY (s:=s) (j:=sk s i) q;have h2:=eM s i hi;split at h
  ·cases h
  ·split at h
   ·cases h
   ·injection h with h;injection h with _ h
    omega
 ·rw[ac q] at h;cases h
theorem EX (s:ByteArray):eG s (fun i=>jV s i):=fun i x j hi h=>by
 have h':jV s i=.ok (x,j):=h;unfold jV at h'
 by_cases q:cq s (i+1) < s.size
 ·rw[af q] at h'
  injection h' with h';injection h' with _ h'
  rcases cX i s.size with a | a
  ·have:=rE s (i+1) (by omega)
   omega
  ·rw[yz (by omega)] at q;omega
 ·rw[ac q] at h';cases h'
theorem zX (s:ByteArray):eG s (lH s):=fun i x j hi h=>by
 unfold lH at h
 by_cases q:nx s i=39
 ·rw[af q] at h
  obtain⟨t,e,h1,h2⟩:=ec h;have h3:=eM s i hi;have h4:=EX s (sk s i) t e h3.2 h1;split at h2
  ·cases h2
  ·injection h2 with h2;injection h2 with _ h2
   omega
 ·rw[ac q] at h;cases h
theorem D9 {d:Nat} {B:Nat→Rd PT} {s:ByteArray} (hB:eG s B):eG s (jD d B s):=fun i x j hi h=>by
 unfold jD at h;obtain⟨_,a,h1,h2⟩:=ec h;have h3:=nH s 40 (by decide) i _ a hi h1
 split at h2
 ·cases h2
 ·obtain⟨p,b,h4,h5⟩:=ec h2
  obtain⟨_,c,h6,h7⟩:=ec h5;have h8:=hB a p b h3.2 h4;have h9:=nH s 41 (by decide) b _ c h8.2 h6
  injection h7 with h7;injection h7 with _ h7
  omega
theorem Mu {d:Nat} {B:Nat→Rd PT} {s:ByteArray} (hB:eG s B) {i:Nat} {x:PT} {j:Nat} (hl:di (aj s i)=true) (h:fB d B s i=.ok (x,j)):i < j∧j≤s.size:=by
 have h0:=px hl;unfold fB at h;split at h
 ·cases h
 ·split at h
  ·obtain⟨p,m,h1,h2⟩:=ec h
   have h3:=D9 hB _ _ _ h0.2 h1;injection h2 with h2;injection h2 with _ h2
   omega
  ·split at h
   ·obtain⟨_,a,h1,h2⟩:=ec h
    obtain⟨n,b,h3,h4⟩:=ec h2;obtain⟨_,c,h5,h6⟩:=ec h4;have k1:=nH s 40 (by decide) _ _ a h0.2 h1
    have k2:=zS s a n b k1.2 h3;have k3:=nH s 41 (by decide) b _ c k2.2 h5
    injection h6 with h6;injection h6 with _ h6
    omega
   ·split at h
    ·obtain⟨_,a,h1,h2⟩:=ec h
     obtain⟨n,b,h3,h4⟩:=ec h2;obtain⟨_,c,h5,h6⟩:=ec h4;have k1:=nH s 40 (by decide) _ _ a h0.2 h1
     have k2:=zX s a n b k1.2 h3;have k3:=nH s 41 (by decide) b _ c k2.2 h5
     injection h6 with h6;injection h6 with _ h6
     omega
    ·injection h with h;injection h with _ h
     omega
theorem Ad {d:Nat} {B:Nat→Rd PT} {s:ByteArray} (hB:eG s B):eG s (jG d B s):=fun i x j hi h=>by
 have h0:=eM s i hi;unfold jG at h;split at h
 ·obtain⟨t,e,h1,h2⟩:=ec h
  have h4:=EX s (sk s i) t e h0.2 h1;injection h2 with h2;injection h2 with _ h2
  omega
 ·split at h
  ·have:=D9 hB _ _ _ h0.2 h;omega
  ·have key:∀k,nx s i≠0→(bO (gR s (sk s i+1)) fun t e=>(.ok (aI k ⟨#[]⟩ 0 t [],e):Rd PT))=.ok (x,j)→i < j∧j≤s.size:=fun k hn h=>by
    obtain⟨t,e,h1,h2⟩:=ec h;have h3:=kU hn;have h4:=v8 s (sk s i+1) t e (by omega) h1
    injection h2 with h2;injection h2 with _ h2
    omega
   split at h
   ·exact key 23 (by omega) h
   ·split at h
    ·exact key 24 (by omega) h
    ·split at h
     ·rename_i hl
      have:=Mu hB hl h;omega
     ·cases h
theorem Fo (s:ByteArray):∀f p i x j,i≤s.size→iP s f p i=.ok (x,j)→i≤j∧j≤s.size
 | 0,p,i,x,j,hi,h=>by cases h
 | f+1,p,i,x,j,hi,h=>by
  have h0:=eM s i hi;rw[iP] at h
  by_cases q:iO (nx s i)=0
  ·rw[af q] at h
   injection h with h;injection h with _ h
   omega
  ·rw[ac q] at h
   obtain⟨t,e,h1,h2⟩:=ec h;have hn:nx s i≠0:=fun z=>q (by rw[z];rfl)
   have h3:=kU hn;have h4:=v8 s (sk s i+1) t e (by omega) h1
   have:=Fo s f _ e x j (by omega) h2
   omega
theorem vX {d:Nat} {B:Nat→Rd PT} {s:ByteArray} (hB:eG s B):eG s (gQ d B s):=fun i x j hi h=>by
 unfold gQ at h;obtain⟨p,e,h1,h2⟩:=ec h;have h3:=Ad hB i p e hi h1;have:=Fo s _ _ e x j h3.2 h2;omega
theorem E2 {d:Nat} {B:Nat→Rd PT} {s:ByteArray} (hB:eG s B):∀f l i x j,i≤s.size→lF d B s f l i=.ok (x,j)→i≤j∧j≤s.size
 | 0,l,i,x,j,hi,h=>by cases h
 | f+1,l,i,x,j,hi,h=>by
  have h0:=eM s i hi;rw[lF] at h
  by_cases q:kg (nx s i)=true
  ·rw[af q] at h
   obtain⟨t,e,h1,h2⟩:=ec h;have h3:=vX hB _ t e h0.2 h1;have:=E2 hB f _ e x j (by omega) h2
   omega
  ·rw[ac q] at h
   injection h with h;injection h with _ h
   omega
theorem vY {d:Nat} {B:Nat→Rd PT} {s:ByteArray} (hB:eG s B):eG s (im d B s):=fun i x j hi h=>by
 unfold im at h;obtain⟨p,e,h1,h2⟩:=ec h;have h3:=vX hB i p e hi h1;obtain⟨l,m,h4,h5⟩:=ec h2;have:=E2 hB _ _ e l m h3.2 h4;injection h5 with h5;injection h5 with _ h5
 omega
theorem FQ {d:Nat} {B:Nat→Rd PT} {s:ByteArray} (hB:eG s B):∀f l i x j,i≤s.size→lI d B s f l i=.ok (x,j)→i≤j∧j≤s.size
 | 0,l,i,x,j,hi,h=>by cases h
 | f+1,l,i,x,j,hi,h=>by
  have h0:=eM s i hi;rw[lI] at h
  by_cases q:nx s i=124
  ·rw[af q] at h
   obtain⟨t,e,h1,h2⟩:=ec h;have hn:=kU (s:=s) (i:=i) (by omega)
   have h3:=vY hB _ t e (by omega) h1
   have:=FQ hB f _ e x j (by omega) h2
   omega
  ·rw[ac q] at h
   injection h with h;injection h with _ h
   omega
theorem FO {d:Nat} {B:Nat→Rd PT} {s:ByteArray} (hB:eG s B):eG s (lX d B s):=fun i x j hi h=>by
 unfold lX at h;obtain⟨p,e,h1,h2⟩:=ec h;have h3:=vY hB i p e hi h1;obtain⟨l,m,h4,h5⟩:=ec h2;have:=FQ hB _ _ e l m h3.2 h4;injection h5 with h5;injection h5 with _ h5
 omega
theorem yp (s:ByteArray):∀d,eG s (iY s d)
 | 0=>fun i x j hi h=>FO (B:=fun j=>.error (0,j)) (fun i x j _ h=>by cases h) i x j hi (by rw[iY] at h;exact h)
 | d+1=>fun i x j hi h=>FO (yp s d) i x j hi (by rw[iY] at h;exact h)
open Go.RowKit
def qw {α:Type} (f:α→List Value) (l:List α):List Value:=l.flatMap f
section
variable {α:Type} {f:α→List Value} {sz:Nat}
theorem EB (hf:∀x,(f x).length=sz):∀(l:List α) (i k:Nat) (x:α),l[i]? =some x→k < sz→(qw f l)[i * sz+k]? =(f x)[k]?
 | [],i,k,x,h,_=>by simp at h
 | y::l,0,k,x,h,hk=>by
  have:y=x:=by simpa using h
  subst this;show (f y++qw f l)[0 * sz+k]? =_;rw[Nat.zero_mul,oI,List.getElem?_append_left (by rw[hf];exact hk)]
 | y::l,i+1,k,x,h,hk=>by
  show (f y++qw f l)[(i+1) * sz+k]? =_;rw[List.getElem?_append_right (by rw[hf,Nat.add_mul];omega),hf,show (i+1) * sz+k - sz=i * sz+k by rw[Nat.add_mul];omega]
  exact EB hf l i k x (by simpa using h) hk
end
theorem II {α:Type} (f:α→List Value) (a b:List α):qw f (a++b)=qw f a++qw f b:=by unfold qw;rw[List.flatMap_append]
theorem LW {α:Type} (f:α→List Value) (a:α):qw f [a]=f a:=by simp[qw]
def cc {α:Type} (w:World) (B:Nat) (e:TypeId) (sz:Nat) (f:α→List Value) (v:Value) (l:List α):Prop:=w.ownsRow B e sz v l.length (qw f l)
section
variable {α:Type} {w w':World} {B:Nat} {e:TypeId} {sz:Nat} {f:α→List Value} {v:Value} {l:List α}
theorem cc.low (h:cc w B e sz f v l) {k:Nat} (hk:v.ownBlock=some k):B≤k∧k < w.heap.size:=uV h k hk
theorem cc.same (h:cc w B e sz f v l) (hs:∀k,v.ownBlock=some k→w'.heap[k]? =w.heap[k]?):cc w' B e sz f v l:=by
 rcases h with ⟨h1,⟨rfl,h2⟩ | ⟨g,cap,cur,rfl,hb,hg,hr⟩⟩
 ·exact⟨h1,.inl ⟨rfl,h2⟩⟩
 ·exact⟨h1,.inr ⟨g,cap,cur,rfl,hb,(hs g rfl).trans hg,hr⟩⟩
theorem cc.later (h:cc w B e sz f v l) (hb:Below w.heap.size w w'):cc w' B e sz f v l:=h.same fun k hk=>hb.block k (h.low hk).2
theorem cc.form (h:cc w B e sz f v l) (hl:l≠[]):∃g cap,v=.slice (some ⟨g,0,none⟩) l.length cap∧l.length≤cap∧cap≤maxLen:=by
 rcases h.2 with ⟨_,h0⟩ | ⟨g,cap,cur,rfl,_,_,h1,h2,_⟩
 ·exact absurd (kJ h0) hl
 ·exact⟨g,cap,rfl,h1,h2⟩
theorem cc.max (h:cc w B e sz f v l):l.length≤maxLen:=by
 rcases h.2 with ⟨_,h0⟩ | ⟨g,cap,cur,rfl,_,_,h1,h2,_⟩
 ·rw[h0];exact cU _
 ·omega
def lenV (v:Value):Nat:=match v with | .slice _ n _=>n | _=>0
theorem cc.len (h:cc w B e sz f v l):∃a cap,v=.slice a l.length cap∧(a=none→cap=0∧l.length=0)∧l.length≤cap:=by
 rcases h.2 with ⟨rfl,h0⟩ | ⟨g,cap,cur,rfl,_,_,h1,h2,_⟩
 ·exact⟨none,0,by rw[h0],fun _=>⟨rfl,h0⟩,by omega⟩
 ·exact⟨_,cap,rfl,fun h=>(by cases h),h1⟩
theorem cc.cell (h:cc w B e sz f v l) (hf:∀x,(f x).length=sz) {g cap i k:Nat} {x:α} {u:Value} (hv:v=.slice (some ⟨g,0,none⟩) l.length cap) (hx:l[i]? =some x) (hu:(f x)[k]? =some u):w.cell? ⟨g,i * sz+k,none⟩=some u:=by
 have hk:k < sz:=by rw[←hf x];exact(rN.1 hu).1
 rcases h.2 with ⟨h1,h0⟩ | ⟨g',cap',cur,h1,hb,hg,hc,hm,hs,ht⟩
 ·rw[hv] at h1;cases h1
 ·rw[hv] at h1;cases h1
  have hi:i < l.length:=(rN.1 hx).1;have au:i * sz+k < l.length * sz:=by
   have:(i+1) * sz≤l.length * sz:=Nat.mul_le_mul_right _ hi;rw[Nat.add_mul] at this;omega
  rw[eX _ _ _ _ _ _ hg,←th];have:=EB hf l i k x hx hk;rw[←ht,List.getElem?_take,af au] at this;rw[this,hu]
end
theorem No {t e:TypeId} {sz g n cap i:Nat} (hu:prog.underlying t=some (.slice e)) (hs:(prog.info? e).map (·.size)=some sz) (hi:i < n) (w:World):
  (Instr.indexAt t (.slice (some ⟨g,0,none⟩) n cap) (.int .i64 (i:Int))).run prog w=.ok (.pointer (some ⟨g,i * sz,none⟩)) w:=by
 have h0:(0:Int)≤(i:Int)∧(i:Int) < (n:Int):=by omega
 cases hq:prog.info? e with
 | none=>simp[hq] at hs
 | some x=>
  have hz:x.size=sz:=by simpa [hq] using hs
  simp[Instr.indexAt,asIntOf,run_underlying hu,h0,sizeOf,typeInfo,hq,hz,Addr.add_lit];intro h;omega
theorem Dx {α:Type} {f:α→List Value} {sz bytes:Nat} {z:Value} {t e:TypeId} (hu:prog.underlying t=some (.slice e)) (iB:(prog.info? e).map (fun i=>(i.zero,i.size,i.bytes))=some (some z,sz,bytes)) (hz:z.cells.size=sz) (ay:0 < sz) (qR:bytes≤1000) (hf:∀x,(f x).length=sz) (h1:∀x,∀u ∈ f x,u.oneCell'=true)
  {w:World} {B:Nat} {v:Value} {l:List α} (h:cc w B e sz f v l) (hB:B≤w.heap.size) (y:α) (g c:Nat) (hc:∀k u,(f y)[k]? =some u→w.cell? ⟨g,k,none⟩=some u) (hl:l.length≤100000000000) (ty:TypeId):
  ∃v' w',(Builtin.append_ #[t,t] ty #[v,.slice (some ⟨g,0,none⟩) 1 c]).run prog w=.ok v' w'∧cc w' B e sz f v' (l++[y])∧w.grownBy w' v.ownBlock∧(v'.ownBlock=v.ownBlock∨v'.ownBlock=some w.heap.size):=by
 cases hi:prog.info? e with
 | none=>simp[hi] at iB
 | some i=>
  simp only[hi,Option.map_some,yI,nX] at iB;obtain⟨lg,lM,ni⟩:=iB;have hb:(l.length+1) * bytes≤140737488355328:=by
   have:(l.length+1) * bytes≤100000000001 * 1000:=Nat.mul_le_mul (by omega) qR
   omega
  obtain⟨v',w',hr,h2,h3, -,h5⟩:=run_append_own_at (P:=prog) w B t ty e i z sz bytes hu hi lg lM ni hz ay v l.length (qw f l) h ⟨g,0,none⟩ 1 c (f y) (by rw[hf,Nat.one_mul]) (fun j u hj=>by rw[nY,oI];exact hc j u hj) (h1 y) (by unfold maxLen;omega) hb hB
  refine⟨v',w',hr, ?_,h3,h5⟩;unfold cc;rw[bg,II,LW];exact h2
theorem ql {α:Type} {f:α→List Value} {sz bytes:Nat} {z:Value} {t e:TypeId} (hu:prog.underlying t=some (.slice e)) (iB:(prog.info? e).map (fun i=>(i.zero,i.size,i.bytes))=some (some z,sz,bytes)) (hz:z.cells.size=sz) (ay:0 < sz) (qR:bytes≤1000) (hf:∀x,(f x).length=sz) (h1:∀x,∀u ∈ f x,u.oneCell'=true)
  {w:World} {ops:Array Oper} {o:Oper} {a:Act} {K:Act→World→Prop} {Q:Exit→Act→World→Prop} {E:Prop} (qN:o.guard=none) (s x:Operand)
  (ho:o.op=.call {callee:=.builtin .append,args:= #[s,x],argTypes:= #[t,t]}) {B:Nat} {v:Value} {l:List α} (h:cc w B e sz f v l) (hB:B≤w.heap.size) (y:α) (g c:Nat) (hs:a.eval s=v) (hx:a.eval x=.slice (some ⟨g,0,none⟩) 1 c) (hc:∀k u,(f y)[k]? =some u→w.cell? ⟨g,k,none⟩=some u) (hl:l.length≤1000000)
  (hK:∀v' w',cc w' B e sz f v' (l++[y])→w.grownBy w' v.ownBlock→(v'.ownBlock=v.ownBlock∨v'.ownBlock=some w.heap.size)→K (a.put o.dst v') w'):
  if Region.wanted o (yielded ops a.tmps)=true then Oper.wp prog o a w K Q else E:=by
 have hw:Region.wanted o (yielded ops a.tmps)=true:=by simp[Region.wanted,qN]
 rw[af hw];obtain⟨v',w',hr,h2,h3,h4⟩:=Dx hu iB hz ay qR hf h1 h hB y g c hc (bJ hl (by decide)) o.type
 unfold Oper.wp execOp;simp only[ho,resolve,invoke,builtin,rT,Sem.run_pure,Result.andThen_ok,pN,ib,kK,hs,hx,hr];exact hK v' w' h2 h3 h4
theorem xP {α:Type} {f:α→List Value} {sz bytes:Nat} {z:Value} {t e:TypeId} (hu:prog.underlying t=some (.slice e)) (iB:(prog.info? e).map (fun i=>(i.zero,i.size,i.bytes))=some (some z,sz,bytes)) (hz:z.cells.size=sz) (ay:0 < sz) (qR:bytes≤1000) (hf:∀x,(f x).length=sz) (h1:∀x,∀u ∈ f x,u.oneCell'=true)
  {w:World} {ops:Array Oper} {rest:List Oper} {o:Oper} {a:Act} {Q:Exit→Act→World→Prop} (qN:o.guard=none) (s x:Operand)
  (ho:o.op=.call {callee:=.builtin .append,args:= #[s,x],argTypes:= #[t,t]}) {B:Nat} {v:Value} {l:List α} (h:cc w B e sz f v l) (hB:B≤w.heap.size) (y:α) (g c:Nat) (hs:a.eval s=v) (hx:a.eval x=.slice (some ⟨g,0,none⟩) 1 c) (hc:∀k u,(f y)[k]? =some u→w.cell? ⟨g,k,none⟩=some u) (hl:l.length≤1000000)
  (hK:∀v' w',cc w' B e sz f v' (l++[y])→w.grownBy w' v.ownBlock→(v'.ownBlock=v.ownBlock∨v'.ownBlock=some w.heap.size)→wpList prog ops Q rest (a.put o.dst v') w'):wpList prog ops Q (o::rest) a w:=by
 refine wpList_plain qN fun K hK'=> ?_
 obtain⟨v',w',hr,h2,h3,h4⟩:=Dx hu iB hz ay qR hf h1 h hB y g c hc (bJ hl (by decide)) o.type
 unfold Oper.wp execOp;simp only[ho,resolve,invoke,builtin,rT,Sem.run_pure,Result.andThen_ok,pN,ib,kK,hs,hx,hr];exact hK' _ _ (hK v' w' h2 h3 h4)
theorem Ih {B:Nat} {a w w':World} {α:Type} {e:TypeId} {sz:Nat} {f:α→List Value} {v:Value} {l:List α} (h:Below B a w) (hr:cc w B e sz f v l) (hB:B≤a.heap.size) (hg:w.grownBy w' v.ownBlock):Below B a w':=
 ⟨hg.os.trans h.os,hg.tape.trans h.tape,hg.output.trans h.output,bJ h.size hg.size,fun k hk=>(hg.block k (by have:=h.size;omega) fun x=>by have:=(hr.low x.symm).1;omega).trans (h.block k hk)⟩
theorem ly {B g:Nat} {a w:World} (h:Below B a w) (hg:B≤g) (k:Nat) (v:Value):Below B a (w.setCell ⟨g,k,none⟩ v):=
 ⟨h.os,h.tape,h.output,by simpa using h.size,fun i hi=>(dm w ⟨g,k,none⟩ i v (by show i≠g;omega)).trans (h.block i hi)⟩
end Go.Proofs.YtlmnjbipfacniaaGreatDoor
