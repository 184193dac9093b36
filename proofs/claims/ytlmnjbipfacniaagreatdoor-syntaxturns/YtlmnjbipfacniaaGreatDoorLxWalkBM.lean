/- What is read of a line is right, and is made of what its kin -/
import Derived.Test.YtlmnjbipfacniaaGreatDoorClone4M
import Derived.Test.YtlmnjbipfacniaaGreatDoorRtEM
import Derived.Test.YtlmnjbipfacniaaGreatDoorLxPlainM
set_option maxHeartbeats 400000
namespace Go.Proofs.YtlmnjbipfacniaaGreatDoor
open Go.Proofs.Tryz
open Go.RowKit
structure RX (x:PT):Prop where
 bad:x.badX=0
 bex:x.bex=x
 ns:x.ns
theorem L0 {T:PT} (h1:1≤T.k∧T.k≤13) (h2:T.k=1→T.t.size≤65536) (h3:T.k=2→0≤T.n) (h4:bW T.k=true→bp T.nm=true) (h5:bG T.k≤(T.len:Int)∧(T.len:Int)≤bF T.k):cJ T=0:=by
 unfold cJ;rw[ac (by omega),ac (fun q=>by have:=h2 q.1;omega),ac (fun q=>by have:=h3 q.1;omega),ac (fun q=>by rw[h4 q.1] at q;exact absurd q.2 (by decide)),ac (by omega)]
theorem Db {f:Nat→Int}:∀n,(∀i,i < n→f i=0)→fT f n=0
 | 0,_=>rfl
 | n+1,h=>by rw[fT,af (Db n fun i hi=>h i (by omega)),h n (by omega)]
theorem wi {k:Int} {t:ByteArray} {n:Int} {nm:ByteArray} {l:List PT} (h1:1≤k∧k≤13) (h2:t.size≤65536) (h3:0≤n∧n≤9223372036854775807) (h4:bW k=true→bp nm=true) (h5:bG k≤(l.length:Int)∧(l.length:Int)≤bF k)
  (e1:k≠1→t=ByteArray.empty) (e2:k≠2→n=0) (e3:bW k≠true→nm=ByteArray.empty) (hl:∀x ∈ l,RX x):RX (aI k t n nm l):=by
 have hk:∀i,i < l.length→RX ((aI k t n nm l).kid i):=fun i hi=>by
  rw[PT.kid_at (T:=aI k t n nm l) hi];exact hl _ (qz hi)
 refine⟨?_, ?_,h3.2,fun i=>(hl _ (qz i.isLt)).ns⟩
 ·rw[PT.badX_eq,af (L0 h1 (fun _=>h2) (fun _=>h3.1) h4 h5)]
  exact Db _ fun i hi=>(hk i hi).bad
 ·rw[PT.bex_eq,wZ]
  have hm:l.map PT.bex=l:=by
   conv=>rhs;rw[←List.map_id l]
   exact uS fun x hx=>(hl x hx).bex
  rw[hm];have a1:(if (aI k t n nm l).k=1 then (aI k t n nm l).t else ByteArray.empty)=t:=by
   show (if k=1 then t else ByteArray.empty)=t
   by_cases q:k=1
   ·rw[af q]
   ·rw[ac q,e1 q]
  have a2:(if (aI k t n nm l).k=2 then (aI k t n nm l).n else 0)=n:=by
   show (if k=2 then n else 0)=n
   by_cases q:k=2
   ·rw[af q]
   ·rw[ac q,e2 q]
  have a3:(if bW (aI k t n nm l).k=true then (aI k t n nm l).nm else ByteArray.empty)=nm:=by
   show (if bW k=true then nm else ByteArray.empty)=nm
   by_cases q:bW k=true
   ·rw[af q]
   ·rw[ac q,e3 q]
  rw[a1,a2,a3];rfl
def Sm (l:List Tk):Prop:=∀t ∈ l,t.t.size≤65536
theorem Sm.tail {l:List Tk} (h:Sm l):Sm l.tail:=fun t ht=>h t (List.mem_of_mem_tail ht)
theorem Sm.head {E:Nat} {l:List Tk} (h:Sm l):(ak E 0 l).t.size≤65536:=by
 cases l with
 | nil=>exact cU _
 | cons a l=>exact h a uU
def Rr {α:Type} (P:α→Prop) (R:Sy α):Prop:=∀x r,R=.ok (x,r)→P x∧Sm r
section
variable {α β:Type} {P:α→Prop} {Q:β→Prop}
theorem Rr.err (e:Int × Nat):Rr P (.error e):=fun _ _ h=>by cases h
theorem Rr.ok {x:α} {r:List Tk} (h:P x) (hr:Sm r):Rr P (.ok (x,r)):=fun _ _ q=>by injection q with q;injection q with q1 q2;subst q1 q2;exact⟨h,hr⟩
theorem Rr.bind {R:Sy α} {f:α→List Tk→Sy β} (h:Rr P R) (k:∀a j,P a→Sm j→Rr Q (f a j)):Rr Q (aR R f):=fun x r q=>by
 obtain⟨a,j,h1,h2⟩:=D1 q;obtain⟨h3,h4⟩:=h a j h1;exact k a j h3 h4 x r h2
theorem Rr.ite {c:Prop} [Decidable c] {a b:Sy α} (h:c→Rr P a) (k:¬c→Rr P b):Rr P (if c then a else b):=by
 split
 ·exact h ‹_›
 ·exact k ‹_›
end
def Gm (t:ByteArray):Prop:=bp t=true
def tru {α:Type} (_:α):Prop:=True
section
variable {E:Nat} {l:List Tk}
theorem sR (s:ByteArray) (h:Sm l):Rr tru (ee E s l):=Rr.ite (fun _=>Rr.ok trivial h.tail) fun _=>Rr.err _
theorem uJ (h:Sm l):Rr Gm (dO E l):=Rr.ite (fun _=>Rr.ite (fun q=>Rr.ok q h.tail) fun _=>Rr.err _) fun _=>Rr.err _
theorem nuS_r (h:Sm l):Rr (fun n:Int=>0≤n∧n≤9223372036854775807) (lW E l):=Rr.ite (fun _=>Rr.err _) fun _=>Rr.ite (fun _=>Rr.err _) fun q=>Rr.ok ⟨by omega,by omega⟩ h.tail
theorem GY (h:Sm l):Rr (fun p:PT=>p.wrong=0∧p.bar=p) (lE E l):=Rr.ite (fun _=>by
 cases hq:jq (ak E 0 l).t with
 | error e=>exact Rr.err _
 | ok v=>exact Rr.ok (I0 (j:=v.2) (by rw[hq])) h.tail) fun _=>Rr.err _
def rM (p:Option Lv):Prop:=∀q,p=some q→∀l:List Tk,Sm l→Rr RX (q.sg l)∧Rr RX (q.pi l)∧Rr RX (q.xp l)
variable {p:Option Lv}
theorem An (h:rM p) (hl:Sm l):Rr RX (eV E p l):=by
 unfold eV;split
 ·exact Rr.err _
 ·exact(h _ rfl l hl).2.2
theorem piO_r (h:rM p) (hl:Sm l):Rr RX (rJ E p l):=by
 unfold rJ;split
 ·exact Rr.err _
 ·exact(h _ rfl l hl).2.1
theorem sgO_r (h:rM p) (hl:Sm l):Rr RX (rI E p l):=by
 unfold rI;split
 ·exact Rr.err _
 ·exact(h _ rfl l hl).1
def Az (o:List PT):Prop:=(∀x ∈ o,RX x)∧o.length≤8
theorem Hb (h:rM p):∀(f:Nat) (o:List PT) (l:List Tk),Az o→Sm l→Rr Az (iA E p f o l)
 | 0,_,_,_,_=>Rr.err _
 | f+1,o,l,ho,hl=>by
  unfold iA;have hn:∀x,RX x→o.length≠8→Az (o++[x]):=fun x hx q=>⟨fun y hy=>by
   rcases rR.1 hy with z | z
   ·exact ho.1 y z
   ·rw[fE] at z;subst z;exact hx,by rw[bg,List.length_singleton];have:=ho.2;omega⟩
  exact Rr.ite (fun _=>Rr.err _) fun q=>Rr.bind (An h hl) fun x r hx hr=>Rr.ite (fun _=>Hb h f _ r.tail (hn x hx q) hr.tail) fun _=>Rr.bind (sR _ hr) fun _ m _ hm=>Rr.ok (hn x hx q) hm
theorem agS_r (h:rM p) (hl:Sm l):Rr Az (mE E p l):=Rr.ite (fun _=>Rr.ok ⟨fun _ q=>(by cases q),cU _⟩ hl.tail) fun _=>Hb h _ _ l ⟨fun _ q=>(by cases q),cU _⟩ hl
theorem FW {k:Int} {x:PT} (h1:1≤k∧k≤13) (hk:k=5∨k=7) (hx:RX x):RX (kl k [x]):=
 wi h1 (cU _) ⟨by decide,by decide⟩ (fun q=>by rcases hk with rfl | rfl <;> exact absurd q (by decide)) (by rcases hk with rfl | rfl <;> exact⟨by show bG _≤((1:Nat):Int);decide,by show ((1:Nat):Int)≤bF _;decide⟩) (fun _=>rfl) (fun _=>rfl) (fun _=>rfl) fun y hy=>by rw[fE] at hy;subst hy;exact hx
theorem npS_r (h:rM p) (hl:Sm l):Rr RX (kj E p l):=
 Rr.bind (uJ hl) fun t r ht hr=>Rr.ite (fun _=>Rr.bind (An h hr.tail) fun x q hx hq=>Rr.bind (sR _ hq) fun _ m _ hm=>
   Rr.ok (wi ⟨by decide,by decide⟩ (cU _) ⟨by decide,by decide⟩ (fun _=>ht) ⟨(by decide:(1:Int)≤1),(by decide:(1:Int)≤1)⟩ (fun _=>rfl) (fun _=>rfl) (fun q=>absurd rfl q) fun y hy=>by rw[fE] at hy;subst hy;exact hx) hm)
  fun _=>Rr.ite (fun _=>Rr.bind (agS_r h hr.tail) fun o q ho hq=>
   Rr.ok (wi ⟨by decide,by decide⟩ (cU _) ⟨by decide,by decide⟩ (fun _=>ht) ⟨by show (0:Int)≤_;omega,by show _≤(8:Int);have:=ho.2;omega⟩ (fun _=>rfl) (fun _=>rfl) (fun q=>absurd rfl q) ho.1) hq)
  fun _=>Rr.ok (wi ⟨by decide,by decide⟩ (cU _) ⟨by decide,by decide⟩ (fun _=>ht) ⟨(by decide:(0:Int)≤0),(by decide:(0:Int)≤0)⟩ (fun _=>rfl) (fun _=>rfl) (fun q=>absurd rfl q) fun y hy=>by cases hy) hr
theorem G0 (h:rM p) (hl:Sm l):Rr RX (fi E p l):=
 Rr.ite (fun _=>npS_r h hl) fun _=>Rr.ite (fun _=>Rr.bind (nuS_r hl) fun n r hn hr=>
   Rr.ok (wi ⟨by decide,by decide⟩ (cU _) hn (fun q=>absurd q (by decide)) ⟨(by decide:(0:Int)≤0),(by decide:(0:Int)≤0)⟩ (fun _=>rfl) (fun q=>absurd rfl q) (fun _=>rfl) fun y hy=>by cases hy) hr) fun _=>
  Rr.ite (fun _=>Rr.ok (wi ⟨by decide,by decide⟩ hl.head ⟨by decide,by decide⟩ (fun q=>absurd q (by decide)) ⟨(by decide:(0:Int)≤0),(by decide:(0:Int)≤0)⟩ (fun q=>absurd rfl q) (fun _=>rfl) (fun _=>rfl) fun y hy=>by cases hy) hl.tail) fun _=>
  Rr.ite (fun _=>Rr.bind (piO_r h hl.tail) fun _ _ hx hr=>Rr.ok (FW ⟨by decide,by decide⟩ (.inl rfl) hx) hr) fun _=>
  Rr.bind (sR _ hl) fun _ _ _ hr=>Rr.bind (An h hr) fun _ _ hx hq=>Rr.bind (sR _ hq) fun _ _ _ hm=>Rr.ok hx hm
theorem GV (h:rM p) (hl:Sm l):Rr RX (fC E p l):=Rr.ite (fun _=>Rr.bind (sgO_r h hl.tail) fun _ _ hx hr=>Rr.ok (FW ⟨by decide,by decide⟩ (.inr rfl) hx) hr) fun _=>G0 h hl
theorem btw_in (t:ByteArray):gT t=0∨(8≤gT t∧gT t≤13):=by
 unfold gT
 repeat' split
 all_goals omega
theorem kbS_in (lv:Nat) (t:Tk) (h:gF lv t≠0):8≤gF lv t∧gF lv t≤13:=by
 unfold gF at h ⊢;split at h
 ·rename_i q
  rw[af q];rcases btw_in t.t with z | z
  ·exact absurd z h
  ·exact z
 ·exact absurd rfl h
theorem rx_two {k:Nat} {x y:PT} (h:8≤k∧k≤13) (hx:RX x) (hy:RX y):RX (kl (k:Int) [x,y]):=by
 have hc:k=8∨k=9∨k=10∨k=11∨k=12∨k=13:=by omega
 refine wi ⟨by omega,by omega⟩ (cU _) ⟨by decide,by decide⟩ (fun q=> ?_) ?_ (fun _=>rfl) (fun _=>rfl) (fun _=>rfl) fun z hz=> ?_
 ·rcases hc with rfl | rfl | rfl | rfl | rfl | rfl <;> exact absurd q (by decide)
 ·rcases hc with rfl | rfl | rfl | rfl | rfl | rfl <;> exact⟨by show (2:Int)≤2;decide,by show (2:Int)≤2;decide⟩
 ·rcases dU.1 hz with rfl | hz
  ·exact hx
  ·rw[fE] at hz;subst hz;exact hy
theorem GX {lv:Nat} {N:List Tk→Sy PT} (hN:∀l,Sm l→Rr RX (N l)):∀(f:Nat) (x:PT) (l:List Tk),RX x→Sm l→Rr RX (jU E lv N f x l)
 | 0,_,_,_,_=>Rr.err _
 | f+1,x,l,hx,hl=>by
  unfold jU;exact Rr.ite (fun _=>Rr.ok hx hl) fun q=>Rr.bind (hN l.tail hl.tail) fun y r hy hr=>GX hN f _ r (rx_two (kbS_in _ _ q) hx hy) hr
theorem CE {lv:Nat} {N:List Tk→Sy PT} (hN:∀l,Sm l→Rr RX (N l)) (hl:Sm l):Rr RX (jT E lv N l):=Rr.bind (hN l hl) fun x r hx hr=>GX hN _ x r hx hr
theorem rowS_r (h:rM p) (lv:Nat) (hl:Sm l):Rr RX (kH E p lv l):=by
 have s4:∀l,Sm l→Rr RX (fC E p l):=fun l hl=>GV h hl
 have s3:∀l,Sm l→Rr RX (jT E 3 (fC E p) l):=fun l hl=>CE s4 hl
 have s2:∀l,Sm l→Rr RX (jT E 2 (jT E 3 (fC E p)) l):=fun l hl=>CE s3 hl
 unfold kH;split
 ·exact CE s2 hl
 ·split
  ·exact s2 l hl
  ·split
   ·exact s3 l hl
   ·exact s4 l hl
end
theorem G6 {E:Nat}:∀d:Nat,rM (bV E d)
 | 0=>fun q h=>by cases h
 | d+1=>fun q h l hl=>by
  have:=G6 (E:=E) d;injection h with h
  subst h;exact⟨GV this hl,G0 this hl,rowS_r this 1 hl⟩
theorem G9 {E d:Nat} {l:List Tk} (hl:Sm l):Rr RX (uM E d l):=An (G6 d) hl
def tf (l:List ByteArray):Prop:=(∀x ∈ l,bp x=true)∧l.length≤8
theorem Ah {l:List ByteArray} (h:∀x ∈ l,bp x=true):cV l=0:=by
 unfold cV;rw[af (rQ.2 h)]
section
variable {E:Nat} {l:List Tk}
theorem G4:∀(f:Nat) (o:List ByteArray) (l:List Tk),tf o→Sm l→Rr tf (iN E f o l)
 | 0,_,_,_,_=>Rr.err _
 | f+1,o,l,ho,hl=>by
  unfold iN;have hn:∀x,bp x=true→o.length≠8→tf (o++[x]):=fun x hx q=>⟨fun y hy=>by
   rcases rR.1 hy with z | z
   ·exact ho.1 y z
   ·rw[fE] at z;subst z;exact hx,by rw[bg,List.length_singleton];have:=ho.2;omega⟩
  exact Rr.bind (uJ hl) fun t r ht hr=>Rr.ite (fun _=>Rr.err _) fun q=>Rr.ite (fun _=>G4 f _ r.tail (hn t ht q) hr.tail) fun _=>Rr.ok (hn t ht q) hr
theorem Bq:tf []:=⟨fun _ q=>(by cases q),cU _⟩
theorem G3 (hl:Sm l):Rr tf (oH E l):=G4 9 [] l Bq hl
theorem dpS_r (hl:Sm l):Rr tf (uP E l):=Rr.ite (fun _=>Rr.ok Bq hl.tail) fun _=>Rr.bind (G3 hl) fun _ _ hp hr=>Rr.bind (sR _ hr) fun _ _ _ hq=>Rr.ok hp hq
theorem dlS_r (hl:Sm l):Rr tf (sZ E l):=Rr.ite (fun _=>G3 hl) fun _=>Rr.ok Bq hl
theorem dfS_r (hl:Sm l):Rr (fun x:ByteArray × List ByteArray × List ByteArray × ByteArray=>bp x.1=true∧tf x.2.1∧tf x.2.2.1∧bp x.2.2.2=true) (dfS E l):=
 Rr.bind (uJ hl) fun _ _ h1 hr=>Rr.bind (sR _ hr) fun _ _ _ hr=>Rr.bind (dpS_r hr) fun _ _ h2 hr=>Rr.bind (dlS_r hr) fun _ _ h3 hr=>Rr.bind (uJ hr) fun _ _ h4 hr=>Rr.ok ⟨h1,h2,h3,h4⟩ hr
structure RS (t:ByteArray) (S:SV):Prop where
 lab:S.lab=t
 al:S.al=ByteArray.empty
 ye:S.ye=ByteArray.empty
 no:S.no=ByteArray.empty
 knd:S.tg.fits=true→S.va.fits=true→S.kndE=0
 bst:S.bst=S
 tg:S.tg.ns
 va:S.va.ns
theorem uB:PT.nul.ns:=⟨by decide,fun i=>i.elim0⟩
theorem xW {x:PT} (h:RX x) (hf:x.fits=true):x.wrongX=0:=by unfold PT.wrongX;rw[af hf];exact h.bad
theorem GW {x:PT} (h:RX x) (hf:x.fits=true) (hp:lU x.k=true):jo x=0:=by unfold jo;rw[ac (fun q=>q (xW h hf)),af hp]
def Ay (P:PT→Prop) (o:Option PT):Prop:=∀x,o=some x→P x
theorem evP_r (hl:Sm l):Rr (Ay fun p=>p.wrong=0∧p.bar=p) (uN E l):=Rr.ite (fun _=>Rr.bind (GY hl.tail) fun p r hp hr=>Rr.ok (fun x q=>by injection q with q;subst q;exact hp) hr) fun _=>Rr.ok (fun x q=>by cases q) hl
theorem evG_r {d a:Nat} {x:PT} (hl:Sm l):Rr (fun o=>Ay RX o∧(o.isSome=true→lU x.k=true)) (sY E d x a l):=
 Rr.ite (fun _=>Rr.ite (fun q=>Rr.bind (G9 hl.tail) fun y r hy hr=>Rr.ok ⟨fun x q=>by injection q with q;subst q;exact hy,fun _=>q⟩ hr) fun _=>Rr.err _) fun _=>Rr.ok ⟨fun x q=>(by cases q),fun q=>(by cases q)⟩ hl
theorem ev_rs {t:ByteArray} {x:PT} {p g:Option PT} (hx:RX x) (hp:Ay (fun p=>p.wrong=0∧p.bar=p) p) (hg:Ay RX g∧(g.isSome=true→lU x.k=true)):RS t (evV {bh with lab:=t} x p g):=by
 cases p with
 | none=>
  cases g with
  | none=>
   refine⟨rfl,rfl,rfl,rfl,fun _ hv=>xW hx hv, ?_,uB,hx.ns⟩
   show SV.mk t 2 PT.nul x.bex PT.nul ByteArray.empty ByteArray.empty (dj []) (dj []) ByteArray.empty ByteArray.empty ByteArray.empty=SV.mk t 2 PT.nul x PT.nul ByteArray.empty ByteArray.empty (dj []) (dj []) ByteArray.empty ByteArray.empty ByteArray.empty;rw[hx.bex]
  | some y=>
   have hy:=hg.1 y rfl;refine⟨rfl,rfl,rfl,rfl,fun ht hv=> ?_, ?_,hx.ns,hy.ns⟩
   ·show dN [jo x,y.wrongX]=0
    rw[GW hx ht (hg.2 rfl),xW hy hv];rfl
   ·show SV.mk t 3 x.bex y.bex PT.nul ByteArray.empty ByteArray.empty (dj []) (dj []) ByteArray.empty ByteArray.empty ByteArray.empty=SV.mk t 3 x y PT.nul ByteArray.empty ByteArray.empty (dj []) (dj []) ByteArray.empty ByteArray.empty ByteArray.empty
    rw[hx.bex,hy.bex]
 | some q=>
  obtain⟨n9,hq2⟩:=hp q rfl
  cases g with
  | none=>
   refine⟨rfl,rfl,rfl,rfl,fun _ hv=> ?_, ?_,uB,hx.ns⟩
   ·show dN [x.wrongX,q.wrong]=0
    rw[xW hx hv,n9];rfl
   ·show SV.mk t 4 PT.nul x.bex q.bar ByteArray.empty ByteArray.empty (dj []) (dj []) ByteArray.empty ByteArray.empty ByteArray.empty=SV.mk t 4 PT.nul x q ByteArray.empty ByteArray.empty (dj []) (dj []) ByteArray.empty ByteArray.empty ByteArray.empty
    rw[hx.bex,hq2]
  | some y=>
   have hy:=hg.1 y rfl;refine⟨rfl,rfl,rfl,rfl,fun ht hv=> ?_, ?_,hx.ns,hy.ns⟩
   ·show dN [jo x,q.wrong,y.wrongX]=0
    rw[GW hx ht (hg.2 rfl),n9,xW hy hv];rfl
   ·show SV.mk t 5 x.bex y.bex q.bar ByteArray.empty ByteArray.empty (dj []) (dj []) ByteArray.empty ByteArray.empty ByteArray.empty=SV.mk t 5 x y q ByteArray.empty ByteArray.empty (dj []) (dj []) ByteArray.empty ByteArray.empty ByteArray.empty
    rw[hx.bex,hy.bex,hq2]
theorem ddS_r {t:ByteArray} {d:Nat} (hl:Sm l):Rr (RS t) (et E d {bh with lab:=t} l):=
 Rr.ite (fun _=>Rr.ok ⟨rfl,rfl,rfl,rfl,fun _ _=>rfl,rfl,uB,uB⟩ hl) fun _=>
  Rr.ite (fun _=>Rr.bind (dfS_r hl.tail) fun x r hx hr=>Rr.ok ⟨rfl,rfl,rfl,rfl,fun _ _=>by
   obtain⟨nm,ps,ls,en⟩:=x;show SV.dfE ⟨t,7,PT.nul,PT.nul,PT.nul,nm,en,dj ps,dj ls,ByteArray.empty,ByteArray.empty,ByteArray.empty⟩=0;unfold SV.dfE;have e:dN [cV [nm,en],cV ps,cV ls]=0:=by
    rw[Ah (l:=[nm,en]) (fun y hy=>by
     rcases dU.1 hy with rfl | hy
     ·exact hx.1
     ·rw[fE] at hy;subst hy;exact hx.2.2.2),Ah hx.2.1.1,Ah hx.2.2.1.1];rfl
   show (if dN [cV [nm,en],cV ps,cV ls]=0∧(8 < ps.length∨8 < ls.length) then 5 else dN [cV [nm,en],cV ps,cV ls])=(0:Int);rw[ac (fun q=>by have h1:ps.length≤8:=hx.2.1.2;have h2:ls.length≤8:=hx.2.2.1.2;omega),e],rfl,uB,uB⟩ hr) fun _=>
  Rr.ite (fun _=>Rr.bind (uJ hl) fun nm r hn hr=>Rr.bind (sR _ hr) fun _ q _ hq=>Rr.bind (GY hq) fun p m hp hm=>Rr.ok ⟨rfl,rfl,rfl,rfl,fun _ _=>by
   show dN [cV [nm],p.wrong]=0;rw[Ah (l:=[nm]) (fun y hy=>by rw[fE] at hy;subst hy;exact hn),hp.1];rfl,by
   show SV.mk t 6 PT.nul PT.nul p.bar nm ByteArray.empty (dj []) (dj []) ByteArray.empty ByteArray.empty ByteArray.empty=SV.mk t 6 PT.nul PT.nul p nm ByteArray.empty (dj []) (dj []) ByteArray.empty ByteArray.empty ByteArray.empty;rw[hp.2],uB,uB⟩ hm) fun _=>
  Rr.bind (G9 hl) fun _ _ hx hr=>Rr.bind (evP_r hr) fun _ _ hp hq=>Rr.bind (evG_r hq) fun _ _ hg hm=>Rr.ok (ev_rs hx hp hg) hm
theorem Cw (hl:Sm l):Rr Gm (jS E l):=Rr.bind (sR _ hl) fun _ _ _ hr=>Rr.bind (uJ hr) fun _ _ ht hq=>Rr.bind (sR _ hq) fun _ _ _ hm=>Rr.ok ht hm
end
structure RT (S:SV):Prop where
 way:WayOK S
 knd:S.tg.fits=true→S.va.fits=true→S.kndE=0
 bst:S.bst=S
 tg:S.tg.ns
 va:S.va.ns
theorem RS.rt {t a y n:ByteArray} {S:SV} (h:RS t S) (ht:t.size≠0→bp t=true) (ha:a.size≠0→bp a=true) (hy:y.size≠0→bp y=true) (hn:n.size≠0→bp n=true) (h1:a.size≠0→y.size=0∧n.size=0):RT {S with al:=a,ye:=y,no:=n}:=by
 obtain⟨lab,k,tg,va,pt,nm,en,ps,ls,al,ye,no⟩:=S;obtain⟨e1,e2,e3,e4,hk,hb,hg,hv⟩:=h;have e1:lab=t:=e1;subst e1;refine⟨⟨ht,ha,hy,hn,h1⟩,hk, ?_,hg,hv⟩;unfold SV.bst at hb ⊢;dsimp only at hb ⊢;injection hb with b1 b2 b3 b4 b5 b6 b7 b8 b9 b10 b11 b12
 rw[b3,b4,b5,b6,b7,b8,b9]
theorem Fb {t:ByteArray} (h:t=ByteArray.empty):t.size≠0→bp t=true:=fun q=>by subst h;exact absurd rfl q
theorem wyS_r {E:Nat} {t:ByteArray} {S:SV} {l:List Tk} (hS:RS t S) (ht:t.size≠0→bp t=true) (hl:Sm l):Rr RT (ge E S l):=by
 have e0:(ByteArray.empty.size≠0→bp ByteArray.empty=true):=Fb rfl;have eS:S={S with al:=ByteArray.empty,ye:=ByteArray.empty,no:=ByteArray.empty}:=by
  obtain⟨lab,k,tg,va,pt,nm,en,ps,ls,al,ye,no⟩:=S;obtain⟨e1,e2,e3,e4,hk,hb,hg,hv⟩:=hS;have e2:al=ByteArray.empty:=e2;have e3:ye=ByteArray.empty:=e3;have e4:no=ByteArray.empty:=e4;subst e2 e3 e4;rfl
 have hw:∀(yes:Bool) (y:ByteArray) (r:List Tk),(y.size≠0→bp y=true)→Sm r→Rr RT (mA E yes {S with ye:=y} r):=fun yes y r hy hr=>
  Rr.ite (fun _=>Rr.bind (Cw hr.tail) fun n q hn hq=>Rr.ok (by
   have:=hS.rt (a:=ByteArray.empty) (y:=y) (n:=n) ht e0 hy (fun _=>hn) (fun q=>absurd rfl q)
   rw[eS];exact this) hq) fun _=>Rr.ite (fun _=>Rr.ok (by
   have:=hS.rt (a:=ByteArray.empty) (y:=y) (n:=ByteArray.empty) ht e0 hy e0 (fun q=>absurd rfl q)
   rw[eS];exact this) hr) fun _=>Rr.err _
 have eY:S={S with ye:=ByteArray.empty}:=by
  have:=hS.ye;obtain⟨lab,k,tg,va,pt,nm,en,ps,ls,al,ye,no⟩:=S;have e3:ye=ByteArray.empty:=this;subst e3;rfl
 refine Rr.ite (fun _=>Rr.ite (fun _=>Rr.bind (Cw hl.tail) fun a r ha hr=>Rr.ok ?_ hr) fun _=>Rr.ite (fun _=>Rr.bind (Cw hl.tail.tail) fun y r hy hr=>hw true y r (fun _=>hy) hr) fun _=> ?_) fun _=>Rr.ok ?_ hl
 ·have:=hS.rt (a:=a) (y:=ByteArray.empty) (n:=ByteArray.empty) ht (fun _=>ha) e0 e0 (fun _=>⟨rfl,rfl⟩)
  rw[eS];exact this
 ·rw[eY];exact hw false _ l.tail e0 hl.tail
 ·have:=hS.rt (a:=ByteArray.empty) (y:=ByteArray.empty) (n:=ByteArray.empty) ht e0 e0 e0 (fun q=>absurd rfl q)
  rw[eS];exact this
theorem raS_r {s:ByteArray} {l:List Tk} (hl:Sm l):Rr RT (oG s l):=by
 have hlb:Rr (fun t:ByteArray=>t.size≠0→bp t=true) (rK s s.size l):=Rr.ite (fun _=>fun x r q=>⟨fun _=>(uJ hl x r q).1,(uJ hl x r q).2⟩) fun _=>Rr.ok (Fb rfl) hl
 exact Rr.bind hlb fun t r ht hr=>Rr.bind (ddS_r hr) fun S q hS hq=>Rr.bind (wyS_r hS ht hq) fun S m hS hm=>Rr.ite (fun _=>Rr.ok hS hm) fun _=>Rr.err _
theorem KI {S:SV} (h:RT S) (h1:S.tg.fits=true) (h2:S.va.fits=true):S.wrong=0:=by
 have hk:=h.knd h1 h2;have ok:∀t:ByteArray,(t.size≠0→bp t=true)→lV t=true:=fun t ht=>by
  unfold lV;rw[isEmpty_iff]
  by_cases q:t.size=0
  ·rw[eW q];rfl
  ·rw[ht q,Bool.or_true]
 unfold SV.wrong;rw[af,ac,hk]
 ·rw[isEmpty_iff,isEmpty_iff,isEmpty_iff]
  rintro⟨q1,q2⟩;have:=h.way.one (xC q1);rcases q2 with q2 | q2
  ·exact xC q2 this.1
  ·exact xC q2 this.2
 ·refine rQ.2 fun t ht=> ?_
  unfold SV.lbl at ht;simp only[dU,ek,fL] at ht;rcases ht with rfl | rfl | rfl | rfl
  ·exact ok _ h.way.lab
  ·exact ok _ h.way.al
  ·exact ok _ h.way.ye
  ·exact ok _ h.way.no
theorem LK {s:ByteArray} {S:SV} (iR:Sm (gc s).1) (h:mC s=.ok (some S)):S.wrong=0∧S.bst=S∧S.tg.ns∧S.va.ns:=by
 unfold mC at h;split at h
 ·cases h
 ·split at h
  ·cases h
  ·cases hr:oG s (gc s).1 with
   | error e=>rw[hr] at h;cases h
   | ok x=>
    rw[hr] at h;have hR:=(raS_r iR x.1 x.2 hr).1;dsimp only at h;split at h
    ·rename_i hf
     injection h with h;injection h with h
     subst h;exact⟨KI hR hf.1 hf.2,hR.bst,hR.tg,hR.va⟩
    ·cases h
open Go.RowKit
theorem Id (b:Nat) (_hb:b < 256) (w:World):
  Calls prog 48 #[.int .u8 (b:Int)] w fun e w'=>e=.returned (.bool (d5 b))∧w'=w:=by
 go_enter func48,ntmps48;go_wp2;go_ret;exact⟨qm (by unfold d5;rw[uX];simp;omega),rfl⟩
theorem CX (b:Nat) (hb:b < 256) (w:World):
  Calls prog 85 #[.int .u8 (b:Int)] w fun e w'=>e=.returned (.bool (di b))∧w'=w:=by
 have hc:(65≤b∧b≤90)∨b < 65∨(65≤b∧90 < b):=by omega
 rcases hc with ⟨h1,h2⟩ | h | ⟨h1,h2⟩
 ·rw[show di b=true from eW (by omega)]
  go_enter func85,ntmps85;go_wp2;go_ret;exact⟨qm (by simp;omega),rfl⟩
 ·rw[show di b=false from dh (by omega)]
  go_enter func85,ntmps85;go_wp2;go_ret;exact⟨rfl,rfl⟩
 ·rw[show di b=false from dh (by omega)]
  go_enter func85,ntmps85;go_wp2;go_ret;exact⟨qm (by simp;omega),rfl⟩
theorem AU (b:Nat) (hb:b < 256) (w:World):
  Calls prog 87 #[.int .u8 (b:Int)] w fun e w'=>e=.returned (.bool (cW b))∧w'=w:=by
 have hc:(48≤b∧b≤57)∨b < 48∨(48≤b∧57 < b):=by omega
 rcases hc with ⟨h1,h2⟩ | h | ⟨h1,h2⟩
 ·rw[show cW b=true from eW (by omega)]
  go_enter func87,ntmps87;go_wp2;go_ret;exact⟨qm (by simp;omega),rfl⟩
 ·rw[show cW b=false from dh (by omega)]
  go_enter func87,ntmps87;go_wp2;go_ret;exact⟨rfl,rfl⟩
 ·rw[show cW b=false from dh (by omega)]
  go_enter func87,ntmps87;go_wp2;go_ret;exact⟨qm (by simp;omega),rfl⟩
theorem IG (b:Nat) (hb:b < 256) (w:World):
  Calls prog 86 #[.int .u8 (b:Int)] w fun e w'=>e=.returned (.bool (dF b))∧w'=w:=by
 have H1:=ab (CX b hb w);have H2:=ab (AU b hb w);unfold dF;generalize di b=x at *;generalize cW b=y at *
 cases x
 ·go_enter func86,ntmps86
  go_wp2_with (first | (go_at_call 85;refine(aa H1).mono ?_;rintro e w ⟨rfl,rfl⟩) | (go_at_call 87;refine(aa H2).mono ?_;rintro e w ⟨rfl,rfl⟩));go_ret;exact⟨rfl,rfl⟩
 ·go_enter func86,ntmps86
  go_wp2_with (first | (go_at_call 85;refine(aa H1).mono ?_;rintro e w ⟨rfl,rfl⟩));go_ret;exact⟨rfl,rfl⟩
theorem CW (s:ByteArray) (i:Nat) (hs:s.size≤2000) (hi:i≤s.size) (w:World):
  Calls prog 47 #[.string s,.int .i64 (i:Int),.func (.func 48) #[] #[]] w fun e w'=>e=.returned (.int .i64 (dd s d5 i:Int))∧w'=w:=by
 go_enter func47,ntmps47;go_wp2_with fail;go_loop [1] (fun v=>∃k:Nat,k≤s.size∧v=.int .i64 (k:Int)∧Hid (dd s d5 i=dd s d5 k)) (fun v=>s.size - (intOf v).toNat)
 case atStart=>exact⟨i,hi,rfl,rfl⟩
 case round=>
  obtain⟨k,hk,rfl,HU⟩:=hrel;rcases cX k s.size with hkt | hkt
  ·have bk:=mY s k hkt
   have Hk:=ab bk;clear bk;have HS:=ab (fun h=> @nJ s d5 k hkt h)
   have HT:=ab (fun h=> @oA s d5 k h)
   have HC:=ab (Id (aj s k) (ke _ _));generalize hq:d5 (aj s k)=q at *;clear hq
   cases q
   ·have ky:=ab (aa HT fun _=>rfl)
    clear HT HS;go_wp2_with (rw[aa Hk];refine(aa HC _).mono ?_;rintro e w ⟨rfl,rfl⟩);go_ret;exact⟨by rw[aa HU,aa ky];rfl,rfl⟩
   ·have fo:=ab (aa HS rfl)
    clear HT HS;go_wp2_with (rw[aa Hk];refine(aa HC _).mono ?_;rintro e w ⟨rfl,rfl⟩);exact⟨⟨k+1,by omega,rfl,by rw[aa HU];exact aa fo⟩,by simp[intOf];omega⟩
  ·have hk':k=s.size:=by omega
   subst hk';have HT:=ab (@oA s d5 s.size (fun h=>by omega))
   go_wp2_with fail;go_ret;exact⟨by rw[aa HU,aa HT];rfl,rfl⟩
theorem Hl (s:ByteArray) (i:Nat) (hs:s.size≤2000) (hi:i≤s.size) (w:World):
  Calls prog 47 #[.string s,.int .i64 (i:Int),.func (.func 86) #[] #[]] w fun e w'=>e=.returned (.int .i64 (dd s dF i:Int))∧w'=w:=by
 go_enter func47,ntmps47;go_wp2_with fail;go_loop [1] (fun v=>∃k:Nat,k≤s.size∧v=.int .i64 (k:Int)∧Hid (dd s dF i=dd s dF k)) (fun v=>s.size - (intOf v).toNat)
 case atStart=>exact⟨i,hi,rfl,rfl⟩
 case round=>
  obtain⟨k,hk,rfl,HU⟩:=hrel;rcases cX k s.size with hkt | hkt
  ·have bk:=mY s k hkt
   have Hk:=ab bk;clear bk;have HS:=ab (fun h=> @nJ s dF k hkt h)
   have HT:=ab (fun h=> @oA s dF k h)
   have HC:=ab (IG (aj s k) (ke _ _));generalize hq:dF (aj s k)=q at *;clear hq
   cases q
   ·have ky:=ab (aa HT fun _=>rfl)
    clear HT HS;go_wp2_with (rw[aa Hk];refine(aa HC _).mono ?_;rintro e w ⟨rfl,rfl⟩);go_ret;exact⟨by rw[aa HU,aa ky];rfl,rfl⟩
   ·have fo:=ab (aa HS rfl)
    clear HT HS;go_wp2_with (rw[aa Hk];refine(aa HC _).mono ?_;rintro e w ⟨rfl,rfl⟩);exact⟨⟨k+1,by omega,rfl,by rw[aa HU];exact aa fo⟩,by simp[intOf];omega⟩
  ·have hk':k=s.size:=by omega
   subst hk';have HT:=ab (@oA s dF s.size (fun h=>by omega))
   go_wp2_with fail;go_ret;exact⟨by rw[aa HU,aa HT];rfl,rfl⟩
theorem Hp (s:ByteArray) (i:Nat) (hs:s.size≤2000) (hi:i≤s.size) (w:World):
  Calls prog 47 #[.string s,.int .i64 (i:Int),.func (.func 87) #[] #[]] w fun e w'=>e=.returned (.int .i64 (dd s cW i:Int))∧w'=w:=by
 go_enter func47,ntmps47;go_wp2_with fail;go_loop [1] (fun v=>∃k:Nat,k≤s.size∧v=.int .i64 (k:Int)∧Hid (dd s cW i=dd s cW k)) (fun v=>s.size - (intOf v).toNat)
 case atStart=>exact⟨i,hi,rfl,rfl⟩
 case round=>
  obtain⟨k,hk,rfl,HU⟩:=hrel;rcases cX k s.size with hkt | hkt
  ·have bk:=mY s k hkt
   have Hk:=ab bk;clear bk;have HS:=ab (fun h=> @nJ s cW k hkt h)
   have HT:=ab (fun h=> @oA s cW k h)
   have HC:=ab (AU (aj s k) (ke _ _));generalize hq:cW (aj s k)=q at *;clear hq
   cases q
   ·have ky:=ab (aa HT fun _=>rfl)
    clear HT HS;go_wp2_with (rw[aa Hk];refine(aa HC _).mono ?_;rintro e w ⟨rfl,rfl⟩);go_ret;exact⟨by rw[aa HU,aa ky];rfl,rfl⟩
   ·have fo:=ab (aa HS rfl)
    clear HT HS;go_wp2_with (rw[aa Hk];refine(aa HC _).mono ?_;rintro e w ⟨rfl,rfl⟩);exact⟨⟨k+1,by omega,rfl,by rw[aa HU];exact aa fo⟩,by simp[intOf];omega⟩
  ·have hk':k=s.size:=by omega
   subst hk';have HT:=ab (@oA s cW s.size (fun h=>by omega))
   go_wp2_with fail;go_ret;exact⟨by rw[aa HU,aa HT];rfl,rfl⟩
theorem Dt (s:ByteArray) (k c:Nat) (hs:s.size≤2000) (hc:c≤s.size) (w:World):
  Calls prog 88 #[.string s,.int .i64 (k:Int),.int .i64 (c:Int)] w fun e w'=>e=.returned (.tuple #[.int .i64 ((if c=s.size then 0 else k:Nat):Int),.int .i64 ((if c=s.size then s.size else c+1:Nat):Int)])∧w'=w:=by
 by_cases h:c=s.size
 ·subst h
  rw[af rfl,af rfl];go_enter func88,ntmps88;go_wp2;go_ret2;exact⟨rfl,rfl⟩
 ·rw[ac h,ac h]
  have h1:((c:Int)==(s.size:Int))=false:=bn;go_enter func88,ntmps88;go_wp2;go_ret2;exact⟨rfl,rfl⟩
open Go.RowKit
theorem zK (s:ByteArray) (i:Nat):(s.data.toList.getD i 0).toNat=aj s i:=rfl
theorem xK (s:ByteArray) (i j:Nat):(s.extract i j).toList=(s.data.toList.drop i).take (j - i):=by
 rw[m7,AC,Array.toList_extract,List.extract_eq_take_drop]
theorem KT (l:List UInt8) (i:Nat) (h:i < l.length):(l.drop i).take 1=[l.getD i 0]:=by
 rw[AB h,List.getD,jH h];rfl
theorem KS (l:List UInt8) (i:Nat) (h:i+1 < l.length):(l.drop i).take 2=[l.getD i 0,l.getD (i+1) 0]:=by
 rw[AB (by omega),AB h,List.getD,List.getD,jH (by omega),jH h];rfl
theorem Af {x:UInt8} {n:Nat} (h:n < 256):x=UInt8.ofNat n↔x.toNat=n:=by
 constructor
 ·rintro rfl;rw[uT];omega
 ·intro e;apply tm.1;rw[uT,e];omega
theorem DB (s:ByteArray) (i:Nat):(s.extract i s.size).size=s.size - i:=by simp
theorem MU (s:ByteArray) (i:Nat) (h:i < s.size):(((s.extract i s.size).extract 0 1).toList==[39])=decide (aj s i=39):=by
 have hl:i < s.data.toList.length:=by simpa using h
 have e:((s.extract i s.size).extract 0 1).toList=[s.data.toList.getD i 0]:=by
  rw[xK,←m7,xK];have:(s.data.toList.drop i).take (s.size - i)=s.data.toList.drop i:=AD (by simp)
  rw[this,List.drop_zero];exact KT _ _ hl
 rw[e,←zK];generalize s.data.toList.getD i 0=x;rw[uX];simp only[tp,nW,n0,decide_eq_true_eq];exact Af (n:=39) (by decide)
theorem MT (s:ByteArray) (i:Nat) (h:i+1 < s.size):(((s.extract i s.size).extract 0 2).toList==[58,61])=decide (aj s i=58∧aj s (i+1)=61):=by
 have hl:i+1 < s.data.toList.length:=by simpa using h
 have e:((s.extract i s.size).extract 0 2).toList=[s.data.toList.getD i 0,s.data.toList.getD (i+1) 0]:=by
  rw[xK,←m7,xK];have:(s.data.toList.drop i).take (s.size - i)=s.data.toList.drop i:=AD (by simp)
  rw[this,List.drop_zero];exact KS _ _ hl
 rw[e,←zK,←zK];generalize s.data.toList.getD i 0=x;generalize s.data.toList.getD (i+1) 0=y;rw[uX];simp only[tp,nW,n0,decide_eq_true_eq];exact and_congr (Af (n:=58) (by decide)) (Af (n:=61) (by decide))
theorem Hq (s:ByteArray) (i:Nat) (w:World) (_hs:s.size≤2000) (hi:i≤s.size):
  Calls prog 46 #[.string (s.extract i s.size),.string ⟨#[39]⟩] w fun e w'=>e=.returned (.bool (decide (aj s i=39)))∧w'=w:=by
 have hz:=DB s i;have HP:=ab (MU s i);have HE:=ab (pz s i);generalize s.extract i s.size=t at *
 by_cases h0:i=s.size
 ·have h1:(t.size:Int) < 1:=by omega
  have dl:=ab (aa HE (by omega))
  clear h0 hz;go_enter func46,ntmps46;go_wp2;go_ret;exact⟨by rw[aa dl];rfl,rfl⟩
 ·have h1:(1:Int)≤(t.size:Int):=by omega
  have dW:=ab (aa HP (by omega))
  clear h0 hz;go_enter func46,ntmps46;go_wp2;go_ret;exact⟨qm (aa dW),rfl⟩
theorem Ie (s:ByteArray) (i:Nat) (w:World) (hs:s.size≤2000) (hi:i≤s.size):
  Calls prog 21 #[.string (s.extract i s.size),.string ⟨#[39]⟩] w fun e w'=>e=.returned (.bool (decide (aj s i=39)))∧w'=w:=by
 have C:=ab (Hq s i w hs hi);generalize s.extract i s.size=t at *;go_enter func21,ntmps21;go_wp2_with fail;refine(aa C).mono ?_;rintro e w ⟨rfl,rfl⟩;go_wp2;go_ret;exact⟨rfl,rfl⟩
theorem Hr (s:ByteArray) (i:Nat) (w:World) (_hs:s.size≤2000) (_hi:i≤s.size):
  Calls prog 46 #[.string (s.extract i s.size),.string ⟨#[58,61]⟩] w fun e w'=>e=.returned (.bool (decide (aj s i=58∧aj s (i+1)=61)))∧w'=w:=by
 have hz:=DB s i;have HP:=ab (MT s i);have HE:Hid (s.size≤i+1→decide (aj s i=58∧aj s (i+1)=61)=false):=ab (fun h=>dh (fun k=>by have:=pz s (i+1) h;omega))
 generalize decide (aj s i=58∧aj s (i+1)=61)=q at *;generalize s.extract i s.size=t at *
 by_cases h0:s.size≤i+1
 ·have h1:(t.size:Int) < 2:=by omega
  have dl:=ab (aa HE h0);clear h0 hz;go_enter func46,ntmps46;go_wp2;go_ret;exact⟨by rw[aa dl];rfl,rfl⟩
 ·have h1:(2:Int)≤(t.size:Int):=by omega
  have dW:=ab (aa HP (by omega))
  clear h0 hz;go_enter func46,ntmps46;go_wp2;go_ret;exact⟨qm (aa dW),rfl⟩
theorem If (s:ByteArray) (i:Nat) (w:World) (hs:s.size≤2000) (hi:i≤s.size):
  Calls prog 21 #[.string (s.extract i s.size),.string ⟨#[58,61]⟩] w fun e w'=>e=.returned (.bool (decide (aj s i=58∧aj s (i+1)=61)))∧w'=w:=by
 have C:=ab (Hr s i w hs hi);generalize s.extract i s.size=t at *;generalize decide (aj s i=58∧aj s (i+1)=61)=q at *;go_enter func21,ntmps21;go_wp2_with fail;refine(aa C).mono ?_;rintro e w ⟨rfl,rfl⟩;go_wp2;go_ret;exact⟨rfl,rfl⟩
theorem CT (s:ByteArray) (i:Nat) (hs:s.size≤2000) (hi:i < s.size) (w:World):
  Calls prog 89 #[.string s,.int .i64 (i:Int)] w fun e w'=>e=.returned (.int .i64 (cq s (i+1):Int))∧w'=w:=by
 go_enter func89,ntmps89;go_wp2_with fail;go_loop [5] (fun v=>∃k:Nat,k≤s.size∧v=.int .i64 (k:Int)∧Hid (cq s (i+1)=cq s k)) (fun v=>s.size - (intOf v).toNat)
 case atStart=>exact⟨i+1,by omega,rfl,rfl⟩
 case round=>
  obtain⟨k,hk,rfl,HU⟩:=hrel;rcases cX k s.size with hkt | hkt
  ·have bk:=mY s k hkt
   have hx:((s[k]).toNat:Int)=(aj s k:Int):=by rw[bk]
   have HP:=ab (Ie s (k+1) w hs (by omega))
   have H1:=ab (@yc s k hkt);have H2:=ab (@yx s k);have H3:=ab (@ym s k);have H4:=ab (@mx s (k+1));generalize hb:aj s k=b at *;clear bk hb
   by_cases gy:b=39
   ·subst gy
    have hq:(((39:Nat):Int) !=39)=false:=by decide
    by_cases hc:aj s (k+1)=39
    ·have jZ:=aa H4 (by omega)
     rw[eW hc] at HP;have HF:=ab (aa H2 rfl hc);clear hc;go_wp2_with (refine(aa HP).mono ?_;rintro e w ⟨rfl,rfl⟩);exact⟨⟨k+2,by omega,aJ (Value.int .i64) (by omega),by rw[aa HU];exact aa HF⟩,by simp[intOf];omega⟩
    ·rw[dh hc] at HP
     have HF:=ab (aa H3 rfl hc);clear hc;go_wp2_with (refine(aa HP).mono ?_;rintro e w ⟨rfl,rfl⟩);go_ret;exact⟨by rw[aa HU,aa HF];rfl,rfl⟩
   ·have hq:((b:Int) !=39)=true:=by rw[rU];omega
    have HF:=ab (aa H1 gy);clear gy;go_wp2_with fail;exact⟨⟨k+1,by omega,rfl,by rw[aa HU];exact aa HF⟩,by simp[intOf];omega⟩
  ·have hk':k=s.size:=by omega
   subst hk';have HT:=ab (@yz s s.size (ax _));go_wp2_with fail;go_ret;exact⟨by rw[aa HU,aa HT];rfl,rfl⟩
theorem Hf (s:ByteArray) (i:Nat) (hs:s.size≤2000) (hi:i < s.size) (w:World):
  Calls prog 90 #[.string s,.int .i64 (i:Int)] w fun e w'=>e=.returned (.int .i64 (cb s (i+1):Int))∧w'=w:=by
 go_enter func90,ntmps90;go_wp2_with fail;go_loop [5] (fun v=>∃k:Nat,k≤s.size+1∧v=.int .i64 (k:Int)∧Hid (cb s (i+1)=cb s k)) (fun v=>s.size+1 - (intOf v).toNat)
 case atStart=>exact⟨i+1,by omega,rfl,rfl⟩
 case round=>
  obtain⟨k,hk,rfl,HU⟩:=hrel;rcases cX k s.size with hkt | hkt
  ·have bk:=mY s k hkt
   have hx:((s[k]).toNat:Int)=(aj s k:Int):=by rw[bk]
   have HP:=ab (CT s k hs hkt w);have H1:=ab (@BD s k hkt);have H2:=ab (@BC s k);have H3:=ab (@BZ s k);have eI:=rE s (k+1) (by omega)
   generalize cq s (k+1)=c at *;generalize hb:aj s k=b at *;clear bk hb
   by_cases h93:b=93
   ·subst h93
    have HF:=ab (aa H3 rfl);go_wp2_with fail;go_ret;exact⟨by rw[aa HU,aa HF];rfl,rfl⟩
   ·have hq:((b:Int)==93)=false:=bn
    by_cases gy:b=39
    ·subst gy
     have HF:=ab (aa H2 rfl);clear h93;go_wp2_with (refine(aa HP).mono ?_;rintro e w ⟨rfl,rfl⟩);exact⟨⟨c+1,by omega,rfl,by rw[aa HU];exact aa HF⟩,by simp[intOf];omega⟩
    ·have hq2:((b:Int)==39)=false:=bn
     have HF:=ab (aa H1 gy h93);clear gy h93;go_wp2_with fail;exact⟨⟨k+1,by omega,rfl,by rw[aa HU];exact aa HF⟩,by simp[intOf];omega⟩
  ·have HT:=ab (@Cq s k hkt)
   have h2:¬k < s.size:=by omega
   go_wp2_with fail;go_ret;exact⟨by rw[aa HU,aa HT];rfl,rfl⟩
end Go.Proofs.YtlmnjbipfacniaaGreatDoor
