/- Patterns without where they lie. Runs of bytes, and texts in -/
import Derived.Test.YtlmnjbipfacniaaGreatDoorPatWrongPs
import Derived.Test.YtlmnjbipfacniaaGreatDoorPatBaseMs
namespace Go.Proofs.YtlmnjbipfacniaaGreatDoor
open Go.RowKit
def aP (k:Int) (t:ByteArray) (n:Int) (nm:ByteArray) (l:List PT):PT:=⟨k,t,n,nm,none,0,0,l.length,l.length,fun i=>l[i]⟩
def PT.lst (T:PT):List PT:=List.ofFn T.kids
def PT.can:PT→PT
 | .node k t n nm _ _ _ _ _ kids=>aP k t n nm (List.ofFn fun i=>PT.can (kids i))
theorem PT.can_eq (T:PT):T.can=aP T.k T.t T.n T.nm (T.lst.map PT.can):=by
 obtain⟨k,t,n,nm,xa,b,o,len,cap,kids⟩:=T;show aP k t n nm (List.ofFn fun i=>PT.can (kids i))=aP k t n nm ((List.ofFn kids).map PT.can)
 rw[List.map_ofFn];rfl
theorem PT.lst_len (T:PT):T.lst.length=T.len:=by unfold PT.lst;simp
theorem PT.lst_at {T:PT} {i:Nat} (h:i < T.len):T.lst[i]? =some (T.kid i):=by
 unfold PT.lst;rw[List.getElem?_ofFn,dif_pos h,PT.kid_at h]
theorem zO (k:Int) (t:ByteArray) (n:Int) (nm:ByteArray) (l:List PT):(aP k t n nm l).lst=l:=by
 unfold PT.lst aP;exact List.ofFn_getElem
theorem yA (T:PT):T.can.k=T.k:=by rw[PT.can_eq];rfl
theorem GF (T:PT):T.can.t=T.t:=by rw[PT.can_eq];rfl
theorem GG (T:PT):T.can.n=T.n:=by rw[PT.can_eq];rfl
theorem Gg (T:PT):T.can.nm=T.nm:=by rw[PT.can_eq];rfl
theorem yh (T:PT):T.can.lst=T.lst.map PT.can:=by rw[PT.can_eq,zO]
theorem wK {P:PT→Prop} (h:∀T:PT,(∀x ∈ T.lst,P x)→P T):∀T,P T:=PT.ind fun T ih=>h T fun x hx=>by
 obtain⟨i,hi⟩:=List.mem_iff_getElem?.1 hx;have au:i < T.len:=by have:=(mG.1 hi).1;rwa [PT.lst_len] at this
 rw[PT.lst_at au] at hi;rw[←lK hi];exact ih i au
def yD:List PT→Nat
 | []=>0
 | x::l=>x.cnt+yD l
def n7:List PT→Nat
 | []=>0
 | x::l=>max x.dep (n7 l)
theorem Dh (f:PT→Nat):∀(l:List PT) (n:Nat),n≤l.length→fy (fun i=>f (l.getD i PT.nul)) n=((l.take n).map f).sum
 | l,0,_=>by simp[fy]
 | l,n+1,h=>by
  rw[fy,Dh f l n (by omega),List.take_succ_eq_append_getElem (by omega),oU,List.sum_append]
  simp[List.getD_eq_getElem?_getD,List.getElem?_eq_getElem (show n < l.length by omega)]
theorem ul:∀l,yD l=(l.map PT.cnt).sum
 | []=>rfl
 | x::l=>by rw[yD,fM,List.sum_cons,ul l]
theorem MP (T:PT) (i:Nat):T.kid i=T.lst.getD i PT.nul:=by
 by_cases h:i < T.len
 ·rw[yF,PT.lst_at h];rfl
 ·rw[yF,wq (by rw[PT.lst_len];omega)]
  unfold PT.kid;rw[dif_neg h];rfl
theorem yg (T:PT):T.cnt=1+yD T.lst:=by
 rw[T.cnt_eq,ul];have:=Dh PT.cnt T.lst T.len (by rw[PT.lst_len];exact aw _)
 rw[Aq (by rw[PT.lst_len];exact aw _)] at this
 rw[←this];exact aD (1+ ·) (AP _ fun i _=>by rw[MP])
theorem E8 {d:Nat}:∀{l:List PT},(∀x ∈ l,x.dep≤d)→n7 l≤d
 | [],_=>cU _
 | x::l,h=>by
  have h1:=h x sc;have h2:=E8 (l:=l) fun y hy=>h y (kH _ hy)
  rw[n7];omega
theorem BD:∀{l:List PT} {x:PT},x ∈ l→x.dep≤n7 l
 | y::l,x,h=>by
  rw[n7];rcases dO.1 h with rfl | h
  ·omega
  ·have:=BD h;omega
theorem D2 (f:Nat→Nat) (d:Nat):∀n,(∀i,i < n→f i≤d)→iZ f n≤d
 | 0,_=>cU _
 | n+1,h=>by
  have h1:=D2 f d n fun i hi=>h i (by omega)
  have h2:=h n (by omega)
  rw[iZ];omega
theorem D8 (f:Nat→Nat):∀n i,i < n→f i≤iZ f n
 | n+1,i,h=>by
  rw[iZ];rcases cG i n with q | q
  ·have:=D8 f n i q;omega
  ·obtain rfl:i=n:=by omega
   omega
theorem xh (T:PT):T.dep=1+n7 T.lst:=by
 rw[T.dep_eq];have h1:iZ (fun i=>(T.kid i).dep) T.len≤n7 T.lst:=D2 _ _ _ fun i hi=>BD (oS (PT.lst_at hi))
 have h2:n7 T.lst≤iZ (fun i=>(T.kid i).dep) T.len:=E8 fun x hx=>by
  obtain⟨i,hi⟩:=List.mem_iff_getElem?.1 hx;have au:i < T.len:=by have:=(mG.1 hi).1;rwa [PT.lst_len] at this
  rw[PT.lst_at au] at hi;rw[←lK hi];exact D8 (fun i=>(T.kid i).dep) T.len i au
 omega
theorem ET (k:Int) (t:ByteArray) (n:Int) (nm:ByteArray) (l:List PT):(aP k t n nm l).cnt=1+yD l:=by rw[yg,zO]
theorem ES (k:Int) (t:ByteArray) (n:Int) (nm:ByteArray) (l:List PT):(aP k t n nm l).dep=1+n7 l:=by rw[xh,zO]
theorem Fg (T:PT):T.can.len=T.len:=by rw[←PT.lst_len,yh,oT,PT.lst_len]
theorem Fi:∀T:PT,T.can.cnt=T.cnt:=wK fun T ih=>by
 rw[yg,yg T,yh,ul,ul,wv];exact aD (fun l=>1+List.sum l) (As fun x hx=>ih x hx)
theorem zF {f:PT→PT}:∀{l:List PT},(∀x ∈ l,(f x).dep=x.dep)→n7 (l.map f)=n7 l
 | [],_=>rfl
 | x::l,h=>by rw[fM,n7,n7,h x sc,zF fun y hy=>h y (kH _ hy)]
theorem Fh:∀T:PT,T.can.dep=T.dep:=wK fun T ih=>by
 rw[xh,xh T,yh,zF ih]
theorem DC {A B:PT} (h:A.can=B.can):B.k=A.k∧B.t=A.t∧B.n=A.n∧B.nm=A.nm∧B.len=A.len∧∀j,j < A.len→(A.kid j).can=(B.kid j).can:=by
 have hl:B.len=A.len:=by rw[←Fg,←h,Fg]
 refine⟨by rw[←yA,←h,yA],by rw[←GF,←h,GF],by rw[←GG,←h,GG],by rw[←Gg,←h,Gg],hl,fun j hj=> ?_⟩
 have e:A.lst.map PT.can=B.lst.map PT.can:=by rw[←yh,h,yh]
 have e2:=aD (fun l=>l[j]?) e
 simp only[qb] at e2;rw[PT.lst_at hj,PT.lst_at (by omega)] at e2
 exact lK e2
open Go.RowKit
theorem pM (s:ByteArray) (i:Nat) (h:s.size≤i):aj s i=0:=by
 unfold aj;have:s.data.toList.length≤i:=by simpa using h
 rw[List.getD,wq this];rfl
theorem mv {s:ByteArray} {i:Nat} (h:aj s i≠0):i < s.size:=by
 by_cases k:i < s.size
 ·exact k
 ·exact absurd (pM s i (by omega)) h
def nY (s:ByteArray) (p:Nat→Bool):Nat→Nat→Nat
 | 0,i=>i
 | f+1,i=>if i < s.size∧p (aj s i)=true then nY s p f (i+1) else i
def cZ (s:ByteArray) (p:Nat→Bool) (i:Nat):Nat:=nY s p (s.size - i) i
theorem nT {s:ByteArray} {p:Nat→Bool} {i:Nat} (h:i < s.size) (hp:p (aj s i)=true):cZ s p i=cZ s p (i+1):=by
 unfold cZ;rw[show s.size - i=(s.size - (i+1))+1 by omega,nY,af ⟨h,hp⟩]
theorem oL {s:ByteArray} {p:Nat→Bool} {i:Nat} (h:i < s.size→p (aj s i)=false):cZ s p i=i:=by
 unfold cZ
 cases hq:s.size - i with
 | zero=>rfl
 | succ f=>rw[nY,ac];rintro⟨h1,h2⟩;rw[h h1] at h2;cases h2
theorem EK (s:ByteArray) (p:Nat→Bool):∀f i,i≤s.size→i≤nY s p f i∧nY s p f i≤s.size
 | 0,i,h=>⟨aw _,h⟩
 | f+1,i,h=>by
  rw[nY];split
  ·rename_i hc
   have:=EK s p f (i+1) (by omega)
   omega
  ·exact⟨aw _,h⟩
theorem mX (s:ByteArray) (p:Nat→Bool) (i:Nat) (h:i≤s.size):i≤cZ s p i∧cZ s p i≤s.size:=EK s p _ i h
theorem DS (s:ByteArray) (p:Nat→Bool):∀f i,∀j,i≤j→j < nY s p f i→p (aj s j)=true
 | 0,i,j,h1,h2=>by rw[nY] at h2;omega
 | f+1,i,j,h1,h2=>by
  rw[nY] at h2;split at h2
  ·rename_i hc
   by_cases hj:j=i
   ·subst hj;exact hc.2
   ·exact DS s p f (i+1) j (by omega) h2
  ·omega
theorem ME {s:ByteArray} {p:Nat→Bool} {i:Nat} (j:Nat) (h1:i≤j) (h2:j < cZ s p i):p (aj s j)=true:=DS s p _ i j h1 h2
theorem Dv (s:ByteArray) (p:Nat→Bool):∀f i,s.size≤f+i→nY s p f i < s.size→p (aj s (nY s p f i))=false
 | 0,i,h,h2=>by rw[nY] at h2;omega
 | f+1,i,h,h2=>by
  rw[nY] at h2 ⊢;split
  ·rename_i hc;rw[af hc] at h2;exact Dv s p f (i+1) (by omega) h2
  ·rename_i hc
   rw[ac hc] at h2
   cases hp:p (aj s i)
   ·rfl
   ·exact absurd ⟨h2,hp⟩ hc
theorem zz {s:ByteArray} {p:Nat→Bool} {i:Nat} (h:cZ s p i < s.size):p (aj s (cZ s p i))=false:=Dv s p _ i (by omega) h
def pZ (s:ByteArray):Nat→Nat→Nat
 | 0,_=>s.size
 | f+1,i=>if i < s.size then (if aj s i=39 then (if aj s (i+1)=39 then pZ s f (i+2) else i) else pZ s f (i+1)) else s.size
def pY (s:ByteArray):Nat→Nat→List UInt8
 | 0,_=>[]
 | f+1,i=>if i < s.size then (if aj s i=39 then (if aj s (i+1)=39 then 39::pY s f (i+2) else []) else s.data.toList.getD i 0::pY s f (i+1)) else []
theorem Bh (s:ByteArray):∀f g i,s.size≤f+i→s.size≤g+i→pZ s f i=pZ s g i
 | 0,0,i,_,_=>rfl
 | 0,g+1,i,h,_=>by rw[pZ,pZ,ac (by omega)]
 | f+1,0,i,_,h=>by rw[pZ,pZ,ac (by omega)]
 | f+1,g+1,i,h1,h2=>by
  rw[pZ,pZ,Bh s f g (i+2) (by omega) (by omega),Bh s f g (i+1) (by omega) (by omega)]
theorem Bg (s:ByteArray):∀f g i,s.size≤f+i→s.size≤g+i→pY s f i=pY s g i
 | 0,0,i,_,_=>rfl
 | 0,g+1,i,h,_=>by rw[pY,pY,ac (by omega)]
 | f+1,0,i,_,h=>by rw[pY,pY,ac (by omega)]
 | f+1,g+1,i,h1,h2=>by
  rw[pY,pY,Bg s f g (i+2) (by omega) (by omega),Bg s f g (i+1) (by omega) (by omega)]
def cq (s:ByteArray) (i:Nat):Nat:=pZ s s.size i
def ct (s:ByteArray) (i:Nat):List UInt8:=pY s s.size i
theorem Ak (s:ByteArray) (i:Nat):cq s i=if i < s.size then (if aj s i=39 then (if aj s (i+1)=39 then cq s (i+2) else i) else cq s (i+1)) else s.size:=by
 unfold cq;rw[Bh s s.size (s.size+1) i (by omega) (by omega),pZ]
theorem Aj (s:ByteArray) (i:Nat):ct s i=if i < s.size then (if aj s i=39 then (if aj s (i+1)=39 then 39::ct s (i+2) else []) else s.data.toList.getD i 0::ct s (i+1)) else []:=by
 unfold ct;rw[Bg s s.size (s.size+1) i (by omega) (by omega),pY]
theorem ys {s:ByteArray} {i:Nat} (h:s.size≤i):cq s i=s.size:=by rw[Ak,ac (by omega)]
theorem xW {s:ByteArray} {i:Nat} (h:i < s.size) (hb:aj s i≠39):cq s i=cq s (i+1):=by rw[Ak,af h,ac hb]
theorem yr {s:ByteArray} {i:Nat} (hb:aj s i=39) (hc:aj s (i+1)=39):cq s i=cq s (i+2):=by rw[Ak,af (mv (by omega)),af hb,af hc]
theorem yf {s:ByteArray} {i:Nat} (hb:aj s i=39) (hc:aj s (i+1)≠39):cq s i=i:=by rw[Ak,af (mv (by omega)),af hb,ac hc]
theorem Gc {s:ByteArray} {i:Nat} (h:s.size≤i):ct s i=[]:=by rw[Aj,ac (by omega)]
theorem xV {s:ByteArray} {i:Nat} (h:i < s.size) (hb:aj s i≠39):ct s i=s.data.toList.getD i 0::ct s (i+1):=by rw[Aj,af h,ac hb]
theorem yq {s:ByteArray} {i:Nat} (hb:aj s i=39) (hc:aj s (i+1)=39):ct s i=39::ct s (i+2):=by rw[Aj,af (mv (by omega)),af hb,af hc]
theorem yd {s:ByteArray} {i:Nat} (hb:aj s i=39) (hc:aj s (i+1)≠39):ct s i=[]:=by rw[Aj,af (mv (by omega)),af hb,ac hc]
theorem xo {s:ByteArray} {P:Nat→Prop} (h0:∀i,s.size≤i→P i) (h1:∀i,i < s.size→aj s i≠39→P (i+1)→P i) (h2:∀i,aj s i=39→aj s (i+1)=39→P (i+2)→P i) (h3:∀i,aj s i=39→aj s (i+1)≠39→P i):∀f i,s.size≤f+i→P i
 | 0,i,h=>h0 i (by omega)
 | f+1,i,h=>by
  rcases cG i s.size with hi | hi
  ·by_cases hb:aj s i=39
   ·by_cases hc:aj s (i+1)=39
    ·exact h2 i hb hc (xo h0 h1 h2 h3 f (i+2) (by omega))
    ·exact h3 i hb hc
   ·exact h1 i hi hb (xo h0 h1 h2 h3 f (i+1) (by omega))
  ·exact h0 i hi
theorem rV (s:ByteArray) (i:Nat) (h:i≤s.size):i≤cq s i∧cq s i≤s.size:=
 xo (P:=fun i=>i≤s.size→i≤cq s i∧cq s i≤s.size) (fun i hi h=>by rw[ys hi];omega) (fun i hi hb ih h=>by rw[xW hi hb];have:=ih (by omega);omega)
  (fun i hb hc ih h=>by rw[yr hb hc];have:=mv (s:=s) (i:=i+1) (by omega);have:=ih (by omega);omega) (fun i hb hc h=>by rw[yf hb hc];omega) s.size i (by omega) h
def dR (b:Nat):Bool:=decide (b=32)
def dB (b:Nat):Bool:=dj b || cR b
open Go.RowKit
abbrev Rd (α:Type):=Except (Int × Nat) (α × Nat)
def bJ {α β:Type} (r:Rd α) (f:α→Nat→Rd β):Rd β:=
 match r with
 | .ok (a,j)=>f a j
 | .error e=>.error e
theorem dw {α β:Type} (a:α) (j:Nat) (f:α→Nat→Rd β):bJ (.ok (a,j)) f=f a j:=rfl
theorem jr {α β:Type} (e:Int × Nat) (f:α→Nat→Rd β):bJ (.error e) f=.error e:=rfl
theorem jH {α β:Type} {r:Rd α} {f:α→Nat→Rd β} {x:β × Nat} (h:bJ r f=.ok x):∃a j,r=.ok (a,j)∧f a j=.ok x:=by
 cases r with
 | ok v=>exact⟨v.1,v.2,rfl,h⟩
 | error e=>cases h
def sk (s:ByteArray) (i:Nat):Nat:=cZ s dR i
def nx (s:ByteArray) (i:Nat):Nat:=aj s (sk s i)
theorem eG (s:ByteArray) (i:Nat) (h:i≤s.size):i≤sk s i∧sk s i≤s.size:=mX s dR i h
theorem nx_ne (s:ByteArray) (i:Nat):nx s i≠32:=by
 unfold nx sk
 by_cases h:cZ s dR i < s.size
 ·have:=zz h
  unfold dR at this;exact of_decide_eq_false this
 ·rw[pM s _ (by omega)];decide
theorem iY {s:ByteArray} {i:Nat} (h:aj s i≠32):sk s i=i:=oL fun _=>db h
theorem Ch (s:ByteArray) (i:Nat):sk s (sk s i)=sk s i:=iY (nx_ne s i)
theorem GA (s:ByteArray) (i:Nat):nx s (sk s i)=nx s i:=by unfold nx;rw[Ch]
theorem kW {s:ByteArray} {i:Nat} (h:nx s i≠0):sk s i < s.size:=mv h
def ez (s:ByteArray) (c i:Nat):Rd Unit:=if nx s i=c then .ok ((),sk s i+1) else .error (2,sk s i)
def cn (s:ByteArray) (j:Nat):Nat:=cZ s dB j
def ib (s:ByteArray) (i:Nat):Rd ByteArray:=
 if dj (nx s i)=true then (if 16 < cn s (sk s i) - sk s i then .error (7,sk s i) else .ok (s.extract (sk s i) (cn s (sk s i)),cn s (sk s i))) else .error (2,sk s i)
def kY (s:ByteArray) (j:Nat):Nat→Nat
 | 0=>0
 | k+1=>min (10 * kY s j k+(aj s (j+k) - 48)) 65537
def iN (s:ByteArray) (j:Nat):Nat:=cZ s cR j
def mC (s:ByteArray) (i:Nat):Rd Nat:=
 if cR (nx s i)=true then
  (
   if aj s (sk s i)=48∧sk s i+1 < iN s (sk s i) then .error (2,sk s i+1)
   else if 65536 < kY s (sk s i) (iN s (sk s i) - sk s i) then .error (3,sk s i)
   else .ok (kY s (sk s i) (iN s (sk s i) - sk s i),iN s (sk s i)))
 else .error (2,sk s i)
def jK (s:ByteArray) (j:Nat):Rd ByteArray:=if cq s (j+1) < s.size then .ok (⟨(ct s (j+1)).toArray⟩,cq s (j+1)+1) else .error (2,s.size)
def mE (s:ByteArray) (i:Nat):Rd ByteArray:=
 if nx s i=39 then bJ (jK s (sk s i)) fun t e=>if t.size=0 then .error (8,sk s i) else .ok (t,e) else .error (2,sk s i)
def pT (t:ByteArray):Nat→Nat
 | 0=>0
 | n+1=>if pT t n≠0 then pT t n else if aT (n+1)=t then n+1 else 0
def kz (t:ByteArray):Nat:=pT t 24
def jZ (d:Nat) (B:Nat→Rd PT) (s:ByteArray) (i:Nat):Rd PT:=
 bJ (ez s 40 i) fun _ j=>if d=0 then .error (4,j) else bJ (B j) fun p k=>bJ (ez s 41 k) fun _ m=>.ok (p,m)
def fK (d:Nat) (B:Nat→Rd PT) (s:ByteArray) (j:Nat):Rd PT:=
 if kz (s.extract j (cn s j))=0 then .error (7,j)
 else if kz (s.extract j (cn s j))=20 then bJ (jZ d B s (cn s j)) fun p m=>.ok (aP 20 ⟨#[]⟩ 0 ⟨#[]⟩ [p],m)
 else if aO (kz (s.extract j (cn s j)))=2 then bJ (ez s 40 (cn s j)) fun _ a=>bJ (mC s a) fun n b=>bJ (ez s 41 b) fun _ c=>.ok (aP (kz (s.extract j (cn s j))) ⟨#[]⟩ n ⟨#[]⟩ [],c)
 else if aO (kz (s.extract j (cn s j)))=1 then bJ (ez s 40 (cn s j)) fun _ a=>bJ (mE s a) fun t b=>bJ (ez s 41 b) fun _ c=>.ok (aP (kz (s.extract j (cn s j))) t 0 ⟨#[]⟩ [],c)
 else .ok (aP (kz (s.extract j (cn s j))) ⟨#[]⟩ 0 ⟨#[]⟩ [],cn s j)
def j3 (d:Nat) (B:Nat→Rd PT) (s:ByteArray) (i:Nat):Rd PT:=
 if nx s i=39 then bJ (jK s (sk s i)) fun t e=>.ok (aP 1 t 0 ⟨#[]⟩ [],e)
 else if nx s i=40 then jZ d B s (sk s i)
 else if nx s i=64 then bJ (ib s (sk s i+1)) fun t e=>.ok (aP 23 ⟨#[]⟩ 0 t [],e)
 else if nx s i=42 then bJ (ib s (sk s i+1)) fun t e=>.ok (aP 24 ⟨#[]⟩ 0 t [],e)
 else if dj (nx s i)=true then fK d B s (sk s i)
 else .error (2,sk s i)
def jc (b:Nat):Nat:=if b=46 then 21 else if b=36 then 22 else 0
def jd (s:ByteArray):Nat→PT→Nat→Rd PT
 | 0,_,i=>.error (0,i)
 | f+1,p,i=>if jc (nx s i)=0 then .ok (p,sk s i) else bJ (ib s (sk s i+1)) fun t e=>jd s f (aP (jc (nx s i)) ⟨#[]⟩ 0 t [p]) e
def ia (d:Nat) (B:Nat→Rd PT) (s:ByteArray) (i:Nat):Rd PT:=bJ (j3 d B s i) fun p j=>jd s (s.size+1) p j
def kB (b:Nat):Bool:=dj b || decide (b=39) || decide (b=40) || decide (b=64) || decide (b=42)
def mA (d:Nat) (B:Nat→Rd PT) (s:ByteArray):Nat→List PT→Nat→Rd (List PT)
 | 0,_,i=>.error (0,i)
 | f+1,l,i=>if kB (nx s i)=true then bJ (ia d B s (sk s i)) fun p j=>mA d B s f (l++[p]) j else .ok (l,sk s i)
def iB (k:Int) (l:List PT):PT:=
 match l with
 | [x]=>x
 | l=>aP k ⟨#[]⟩ 0 ⟨#[]⟩ l
def iC (d:Nat) (B:Nat→Rd PT) (s:ByteArray) (i:Nat):Rd PT:=bJ (ia d B s i) fun p j=>bJ (mA d B s (s.size+1) [p] j) fun l e=>.ok (iB 18 l,e)
def mF (d:Nat) (B:Nat→Rd PT) (s:ByteArray):Nat→List PT→Nat→Rd (List PT)
 | 0,_,i=>.error (0,i)
 | f+1,l,i=>if nx s i=124 then bJ (iC d B s (sk s i+1)) fun p j=>mF d B s f (l++[p]) j else .ok (l,sk s i)
def m9 (d:Nat) (B:Nat→Rd PT) (s:ByteArray) (i:Nat):Rd PT:=bJ (iC d B s i) fun p j=>bJ (mF d B s (s.size+1) [p] j) fun l e=>.ok (iB 19 l,e)
def jL (s:ByteArray):Nat→Nat→Rd PT
 | 0,i=>m9 0 (fun j=>.error (0,j)) s i
 | d+1,i=>m9 (d+1) (jL s d) s i
def n9 (s:ByteArray):Rd PT:=bJ (jL s 200 0) fun p j=>if j < s.size then .error (2,j) else .ok (p,j)
def j2 (s:ByteArray):Rd PT:=if 65536 < s.size then .error (4,0) else bJ (n9 s) fun p j=>if p.fits=true then .ok (p,j) else .error (4,0)
def eA {α:Type} (s:ByteArray) (P:Nat→Rd α):Prop:=∀i x j,i≤s.size→P i=.ok (x,j)→i < j∧j≤s.size
theorem nR (s:ByteArray) (c:Nat) (hc:c≠0):eA s (ez s c):=fun i x j hi h=>by
 unfold ez at h
 by_cases q:nx s i=c
 ·rw[af q] at h
  have h1:=kW (s:=s) (i:=i) (by omega)
  have h2:=eG s i hi;injection h with h;injection h with _ h
  omega
 ·rw[ac q] at h;cases h
theorem rO {s:ByteArray} {j:Nat} (h:dj (aj s j)=true):j < cn s j∧cn s j≤s.size:=by
 have hj:j < s.size:=by
  by_cases q:j < s.size
  ·exact q
  ·rw[pM s j (by omega)] at h;exact absurd h (by decide)
 unfold cn;rw[nT hj (by unfold dB;rw[h];rfl)]
 have:=mX s dB (j+1) (by omega)
 omega
theorem BH {s:ByteArray} {j:Nat} (h:cR (aj s j)=true):j < iN s j∧iN s j≤s.size:=by
 have hj:j < s.size:=by
  by_cases q:j < s.size
  ·exact q
  ·rw[pM s j (by omega)] at h;exact absurd h (by decide)
 unfold iN;rw[nT hj h];have:=mX s cR (j+1) (by omega)
 omega
theorem v8 (s:ByteArray):eA s (ib s):=fun i x j hi h=>by
 unfold ib at h
 by_cases q:dj (nx s i)=true
 ·rw[af q] at h
  have h1:=rO (s:=s) (j:=sk s i) q;have h2:=eG s i hi
  by_cases r:16 < cn s (sk s i) - sk s i
  ·rw[af r] at h;cases h
  ·rw[ac r] at h
   injection h with h;injection h with _ h
   omega
 ·rw[ac q] at h;cases h
theorem zM (s:ByteArray):eA s (mC s):=fun i x j hi h=>by
 unfold mC at h
 by_cases q:cR (nx s i)=true
 ·rw[af q] at h
  have h1:=BH (s:=s) (j:=sk s i) q;have h2:=eG s i hi;split at h
  ·cases h
  ·split at h
   ·cases h
   ·injection h with h;injection h with _ h
    omega
 ·rw[ac q] at h;cases h
theorem EI (s:ByteArray):eA s (fun i=>jK s i):=fun i x j hi h=>by
 have h':jK s i=.ok (x,j):=h;unfold jK at h'
 by_cases q:cq s (i+1) < s.size
 ·rw[af q] at h'
  injection h' with h';injection h' with _ h'
  rcases cG i s.size with a | a
  ·have:=rV s (i+1) (by omega)
   omega
  ·rw[ys (by omega)] at q;omega
 ·rw[ac q] at h';cases h'
theorem zR (s:ByteArray):eA s (mE s):=fun i x j hi h=>by
 unfold mE at h
 by_cases q:nx s i=39
 ·rw[af q] at h
  obtain⟨t,e,h1,h2⟩:=jH h;have h3:=eG s i hi;have h4:=EI s (sk s i) t e h3.2 h1;split at h2
  ·cases h2
  ·injection h2 with h2;injection h2 with _ h2
   omega
 ·rw[ac q] at h;cases h
theorem DT {d:Nat} {B:Nat→Rd PT} {s:ByteArray} (hB:eA s B):eA s (jZ d B s):=fun i x j hi h=>by
 unfold jZ at h;obtain⟨_,a,h1,h2⟩:=jH h;have h3:=nR s 40 (by decide) i _ a hi h1
 split at h2
 ·cases h2
 ·obtain⟨p,b,h4,h5⟩:=jH h2
  obtain⟨_,c,h6,h7⟩:=jH h5;have h8:=hB a p b h3.2 h4;have h9:=nR s 41 (by decide) b _ c h8.2 h6
  injection h7 with h7;injection h7 with _ h7
  omega
theorem L1 {d:Nat} {B:Nat→Rd PT} {s:ByteArray} (hB:eA s B) {i:Nat} {x:PT} {j:Nat} (hl:dj (aj s i)=true) (h:fK d B s i=.ok (x,j)):i < j∧j≤s.size:=by
 have h0:=rO hl;unfold fK at h;split at h
 ·cases h
 ·split at h
  ·obtain⟨p,m,h1,h2⟩:=jH h
   have h3:=DT hB _ _ _ h0.2 h1;injection h2 with h2;injection h2 with _ h2
   omega
  ·split at h
   ·obtain⟨_,a,h1,h2⟩:=jH h
    obtain⟨n,b,h3,h4⟩:=jH h2;obtain⟨_,c,h5,h6⟩:=jH h4;have k1:=nR s 40 (by decide) _ _ a h0.2 h1
    have k2:=zM s a n b k1.2 h3;have k3:=nR s 41 (by decide) b _ c k2.2 h5
    injection h6 with h6;injection h6 with _ h6
    omega
   ·split at h
    ·obtain⟨_,a,h1,h2⟩:=jH h
     obtain⟨n,b,h3,h4⟩:=jH h2;obtain⟨_,c,h5,h6⟩:=jH h4;have k1:=nR s 40 (by decide) _ _ a h0.2 h1
     have k2:=zR s a n b k1.2 h3;have k3:=nR s 41 (by decide) b _ c k2.2 h5
     injection h6 with h6;injection h6 with _ h6
     omega
    ·injection h with h;injection h with _ h
     omega
theorem zY {d:Nat} {B:Nat→Rd PT} {s:ByteArray} (hB:eA s B):eA s (j3 d B s):=fun i x j hi h=>by
 have h0:=eG s i hi;unfold j3 at h;split at h
 ·obtain⟨t,e,h1,h2⟩:=jH h
  have h4:=EI s (sk s i) t e h0.2 h1;injection h2 with h2;injection h2 with _ h2
  omega
 ·split at h
  ·have:=DT hB _ _ _ h0.2 h;omega
  ·have key:∀k,nx s i≠0→(bJ (ib s (sk s i+1)) fun t e=>(.ok (aP k ⟨#[]⟩ 0 t [],e):Rd PT))=.ok (x,j)→i < j∧j≤s.size:=fun k hn h=>by
    obtain⟨t,e,h1,h2⟩:=jH h;have h3:=kW hn;have h4:=v8 s (sk s i+1) t e (by omega) h1
    injection h2 with h2;injection h2 with _ h2
    omega
   split at h
   ·exact key 23 (by omega) h
   ·split at h
    ·exact key 24 (by omega) h
    ·split at h
     ·rename_i hl
      have:=L1 hB hl h;omega
     ·cases h
theorem E2 (s:ByteArray):∀f p i x j,i≤s.size→jd s f p i=.ok (x,j)→i≤j∧j≤s.size
 | 0,p,i,x,j,hi,h=>by cases h
 | f+1,p,i,x,j,hi,h=>by
  have h0:=eG s i hi;rw[jd] at h
  by_cases q:jc (nx s i)=0
  ·rw[af q] at h
   injection h with h;injection h with _ h
   omega
  ·rw[ac q] at h
   obtain⟨t,e,h1,h2⟩:=jH h;have hn:nx s i≠0:=fun z=>q (by rw[z];rfl)
   have h3:=kW hn;have h4:=v8 s (sk s i+1) t e (by omega) h1
   have:=E2 s f _ e x j (by omega) h2
   omega
theorem vX {d:Nat} {B:Nat→Rd PT} {s:ByteArray} (hB:eA s B):eA s (ia d B s):=fun i x j hi h=>by
 unfold ia at h;obtain⟨p,e,h1,h2⟩:=jH h;have h3:=zY hB i p e hi h1;have:=E2 s _ _ e x j h3.2 h2;omega
theorem EJ {d:Nat} {B:Nat→Rd PT} {s:ByteArray} (hB:eA s B):∀f l i x j,i≤s.size→mA d B s f l i=.ok (x,j)→i≤j∧j≤s.size
 | 0,l,i,x,j,hi,h=>by cases h
 | f+1,l,i,x,j,hi,h=>by
  have h0:=eG s i hi;rw[mA] at h
  by_cases q:kB (nx s i)=true
  ·rw[af q] at h
   obtain⟨t,e,h1,h2⟩:=jH h;have h3:=vX hB _ t e h0.2 h1;have:=EJ hB f _ e x j (by omega) h2
   omega
  ·rw[ac q] at h
   injection h with h;injection h with _ h
   omega
theorem vY {d:Nat} {B:Nat→Rd PT} {s:ByteArray} (hB:eA s B):eA s (iC d B s):=fun i x j hi h=>by
 unfold iC at h;obtain⟨p,e,h1,h2⟩:=jH h;have h3:=vX hB i p e hi h1;obtain⟨l,m,h4,h5⟩:=jH h2;have:=EJ hB _ _ e l m h3.2 h4;injection h5 with h5;injection h5 with _ h5
 omega
theorem Fv {d:Nat} {B:Nat→Rd PT} {s:ByteArray} (hB:eA s B):∀f l i x j,i≤s.size→mF d B s f l i=.ok (x,j)→i≤j∧j≤s.size
 | 0,l,i,x,j,hi,h=>by cases h
 | f+1,l,i,x,j,hi,h=>by
  have h0:=eG s i hi;rw[mF] at h
  by_cases q:nx s i=124
  ·rw[af q] at h
   obtain⟨t,e,h1,h2⟩:=jH h;have hn:=kW (s:=s) (i:=i) (by omega)
   have h3:=vY hB _ t e (by omega) h1
   have:=Fv hB f _ e x j (by omega) h2
   omega
  ·rw[ac q] at h
   injection h with h;injection h with _ h
   omega
theorem Fu {d:Nat} {B:Nat→Rd PT} {s:ByteArray} (hB:eA s B):eA s (m9 d B s):=fun i x j hi h=>by
 unfold m9 at h;obtain⟨p,e,h1,h2⟩:=jH h;have h3:=vY hB i p e hi h1;obtain⟨l,m,h4,h5⟩:=jH h2;have:=Fv hB _ _ e l m h3.2 h4;injection h5 with h5;injection h5 with _ h5
 omega
theorem yj (s:ByteArray):∀d,eA s (jL s d)
 | 0=>fun i x j hi h=>Fu (B:=fun j=>.error (0,j)) (fun i x j _ h=>by cases h) i x j hi (by rw[jL] at h;exact h)
 | d+1=>fun i x j hi h=>Fu (yj s d) i x j hi (by rw[jL] at h;exact h)
end Go.Proofs.YtlmnjbipfacniaaGreatDoor
