/- Expressions that are written are read, plain. Expressions th -/
import Derived.Test.YtlmnjbipfacniaaGreatDoorWrDMs
import Derived.OrdersHeld
import Derived.StillTail
import Derived.RegionTactic
import Derived.WalkKit
import Derived.Below
import Derived.Deep.MidRow
import Derived.KernelRfl
set_option maxRecDepth 100000
set_option maxHeartbeats 4000000
namespace Go.Proofs.YtlmnjbipfacniaaGreatDoor
open Go.Proofs.Tryz
open Go.RowKit
theorem zq (k:Int):∃L:Nat,bs k=(L:Int)∧1≤L∧L≤5:=by
 unfold bs;split
 ·exact⟨4,rfl,by omega,by omega⟩
 ·split
  ·exact⟨1,rfl,by omega,by omega⟩
  ·split
   ·exact⟨2,rfl,by omega,by omega⟩
   ·split
    ·exact⟨3,rfl,by omega,by omega⟩
    ·exact⟨5,rfl,by omega,by omega⟩
def HdT (t:Tk):Prop:=t.k=1∨t.k=2∨t.k=3∨(t.k=5∧(t.t=ah 36∨t.t=ah 45∨t.t=ah 40))
structure OwnX (E:Nat) (T:PT):Prop where
 hd:∀i r,HdT (ak E 0 (bj i T.exI++r))
 nm:bs T.k=5→NoM E T.exI
 pc:bs T.k=5→∀d,2 * T.dep≤d+2→kZ E d 5 T.exI T.bex
 ng:bs T.k=4→∀d,2 * T.dep≤d+2→kZ E d 4 T.exI T.bex
 ch:∀lv:Nat,1≤lv→lv≤3→bs T.k=(lv:Int)→∀d,2 * T.dep≤d+2→xv E d lv T.exI T.bex
section
variable {E d:Nat} {T:PT}
theorem kZ.low {m:Nat} {its:List It} {x:PT} (h:kZ E d m its x) (hm:m≤4):∀n lv,lv+n=m→1≤lv→kZ E d lv its x
 | 0,lv,e,_=>by obtain rfl:lv=m:=e;exact h
 | n+1,lv,e,h1=>((kZ.low h hm n (lv+1) (by omega) (by omega)).chain h1 (by omega)).reads (by omega)
theorem OwnX.bare (h:OwnX E T) {lv:Nat} (h1:1≤lv) (hl:(lv:Int)≤bs T.k) (hd:2 * T.dep≤d+2):kZ E d lv T.exI T.bex:=by
 obtain⟨L,e,l1,l5⟩:=zq T.k;have eN:lv≤L:=by omega
 by_cases h5:L=5
 ·subst h5
  exact(h.pc e d hd).down (h.nm e) lv h1 (by omega)
 ·by_cases h4:L=4
  ·subst h4
   exact(h.ng e d hd).low (by omega) (4 - lv) lv (by omega) h1
  ·exact((h.ch L l1 (by omega) e d hd).reads (by omega)).low (by omega) (L - lv) lv (by omega) h1
theorem OwnX.bareChain (h:OwnX E T) {lv:Nat} (h1:1≤lv) (h3:lv≤3) (hl:(lv:Int)≤bs T.k) (hd:2 * T.dep≤d+2):xv E d lv T.exI T.bex:=by
 by_cases q:bs T.k=(lv:Int)
 ·exact h.ch lv h1 h3 q d hd
 ·exact(h.bare (lv:=lv+1) (by omega) (by omega) hd).chain h1 h3
theorem DF (E d:Nat) (l:List Tk):eX E (bV E (d+1)) l=m7 E (bV E d) 1 l:=rfl
theorem KU (E d:Nat) (l:List Tk):uD E (bV E (d+1)) l=m7 E (bV E d) 5 l:=rfl
theorem Kw (E d:Nat) (l:List Tk):uC E (bV E (d+1)) l=m7 E (bV E d) 4 l:=rfl
theorem zU (T:PT):1≤T.dep:=T.dep_pos
theorem OwnX.par (h:OwnX E T) (hd:2 * T.dep≤d+1):kZ E d 5 (sg 40::(T.exI++[sg 41])) T.bex:=fun i r hc=>by
 have h1:=zU T;obtain⟨d',rfl⟩:∃d',d=d'+1:=⟨d - 1,by omega⟩
 rw[gu,mr,gu,qN,List.cons_append,fT,xt];generalize i+1+(ar T.exI).length=j;have hb:=h.bare (lv:=1) (d:=d') (by omega) (by obtain⟨L,e,l1,_⟩:=zq T.k;omega) (by omega) (i+1) (⟨5,ah 41,j⟩::r) (wg rfl (by decide) (by decide) _ _ (by omega))
 unfold eY;show (if (5:Nat)=1 then _ else if (5:Nat)=2 then _ else if (5:Nat)=3 then _ else if aL ⟨5,ah 40,i⟩ (ah 36)=true then _ else aR (ef E (ah 40) (⟨5,ah 40,i⟩::(bj (i+1) T.exI++(⟨5,ah 41,j⟩::r)))) _)=_;rw[ac (by decide),ac (by decide),ac (by decide),fH,ac (by decide),uv,aQ,DF,hb,aQ,uv,aQ]
theorem ER (its:List It):NoM E (sg 40::its):=fun i r=>by
 rw[gu];exact(fH 40 45 i).trans (db (by decide))
theorem yi {lv:Int} (h:bs T.k < lv):T.atl lv=sg 40::(T.exI++[sg 41]):=by unfold PT.atl inP;rw[af (fk h)]
theorem wY {lv:Int} (h:¬bs T.k < lv):T.atl lv=T.exI:=by unfold PT.atl inP;rw[ac (by rw[db h];decide)]
theorem um (T:PT):T.atl 0=T.exI:=wY (by obtain⟨L,e,_,_⟩:=zq T.k;omega)
theorem OwnX.atl (h:OwnX E T) {lv:Nat} {lw:Int} (hw:lw=(lv:Int)) (h1:1≤lv) (h5:lv≤5) (hd:2 * T.dep≤d+1):kZ E d lv (T.atl lw) T.bex:=by
 subst hw
 by_cases q:bs T.k < (lv:Int)
 ·rw[yi q]
  exact(h.par hd).down (ER _) lv h1 h5
 ·rw[wY q]
  exact h.bare h1 (by omega) (by omega)
theorem OwnX.atlChain (h:OwnX E T) {lv:Nat} {lw:Int} (hw:lw=(lv:Int)) (h1:1≤lv) (h3:lv≤3) (hd:2 * T.dep≤d+1):xv E d lv (T.atl lw) T.bex:=by
 subst hw
 by_cases q:bs T.k < (lv:Int)
 ·rw[yi q]
  exact((h.par hd).down (ER _) (lv+1) (by omega) (by omega)).chain h1 h3
 ·rw[wY q]
  exact h.bareChain h1 h3 (by omega) (by omega)
theorem OwnX.atlHd (h:OwnX E T) (lv:Int) (i:Nat) (r:List Tk):HdT (ak E 0 (bj i (T.atl lv)++r)):=by
 by_cases q:bs T.k < lv
 ·rw[yi q,gu]
  exact .inr (.inr (.inr ⟨rfl,.inr (.inr rfl)⟩))
 ·rw[wY q];exact h.hd i r
theorem OwnX.any (h:OwnX E T) (hd:2 * T.dep≤d+1) (i:Nat) (r:List Tk) (hc:Cnd E 1 r):eX E (bV E d) (bj i T.exI++r)=.ok (T.bex,r):=by
 have h1:=zU T;obtain⟨d',rfl⟩:∃d',d=d'+1:=⟨d - 1,by omega⟩
 rw[DF];exact h.bare (by omega) (by obtain⟨L,e,l1,_⟩:=zq T.k;omega) (by omega) i r hc
end
def mD:List (List It)→List It
 | []=>[]
 | [x]=>x
 | x::y::r=>x++(sg 44::bl::mD (y::r))
theorem Eg:∀(l:List (List It)) (x:List It),mD (l++[x])=mD l++((if l=[] then [] else [sg 44,bl])++x)
 | [],x=>rfl
 | [a],x=>rfl
 | a::b::l,x=>by
  have ih:=Eg (b::l) x;rw[ac (by simp)] at ih ⊢
  show a++(sg 44::bl::mD (b::l++[x]))=(a++(sg 44::bl::mD (b::l)))++_;rw[ih];simp
theorem Fs (f:Nat→List It):∀n,i6 f n=mD ((List.range n).map f)
 | 0=>rfl
 | n+1=>by
  rw[i6,Fs f n,List.range_succ,oU,List.map_singleton,Eg]
  by_cases h:n=0
  ·subst h;rfl
  ·rw[af (by omega),ac (by simpa using h)]
theorem Fr {E:Nat} {p:Option Lv} {R:List Tk}:∀(L:List PT) (x:PT) (acc:List PT) (f i:Nat),(∀y ∈ x::L,∀i r,Cnd E 1 r→eX E p (bj i y.exI++r)=.ok (y.bex,r))→acc.length+(L.length+1)≤8→L.length < f→
  iO E p f acc (bj i (mD ((x::L).map PT.exI)++[sg 41])++R)=.ok (acc++(x::L).map PT.bex,R)
 | [],x,acc,f,i,hx,hl,hf=>by
  obtain⟨g,rfl⟩:∃g,f=g+1:=⟨f - 1,by simp at hf;omega⟩
  have h0:=hx x (by simp)
  show iO E p (g+1) acc (bj i (x.exI++[sg 41])++R)=_;rw[mr,gu,qN,fT,iO,ac (by simp at hl;omega)]
  generalize i+(ar x.exI).length=j;have e0:eX E p (bj i x.exI++([(⟨5,ah 41,j⟩:Tk)]++R))=.ok (x.bex,(⟨5,ah 41,j⟩:Tk)::R):=h0 i _ (wg rfl (by decide) (by decide) _ _ (by omega))
  rw[e0,aQ];show (if aL ⟨5,ah 41,j⟩ (ah 44)=true then _ else aR (ef E (ah 41) (⟨5,ah 41,j⟩::R)) _)=_;rw[fH,ac (by decide),uv,aQ]
  rfl
 | y::L,x,acc,f,i,hx,hl,hf=>by
  obtain⟨g,rfl⟩:∃g,f=g+1:=⟨f - 1,by omega⟩
  have h0:=hx x (by simp)
  rw[List.length_cons] at hl hf;show iO E p (g+1) acc (bj i ((x.exI++(sg 44::bl::mD ((y::L).map PT.exI)))++[sg 41])++R)=_;rw[fT,mr,fT,iO,ac (by omega)]
  generalize i+(ar x.exI).length=j;show aR (eX E p (bj i x.exI++(⟨5,ah 44,j⟩::(bj (j+1+1) (mD ((y::L).map PT.exI)++[sg 41])++R)))) _=_;rw[h0 i _ (wg rfl (by decide) (by decide) _ _ (by omega)),aQ]
  show (if aL ⟨5,ah 44,j⟩ (ah 44)=true then iO E p g (acc++[x.bex]) (bj (j+1+1) (mD ((y::L).map PT.exI)++[sg 41])++R) else _)=_;rw[fH,af (by decide),Fr L y (acc++[x.bex]) g (j+1+1) (fun z hz=>hx z (kH _ hz)) (by rw[be,List.length_singleton];omega) (by omega),fT]
  rfl
theorem agS_at {E:Nat} {p:Option Lv} {R:List Tk} (l:List PT) (hl:l.length≤8) (i:Nat) (hx:∀y ∈ l,∀i r,Cnd E 1 r→eX E p (bj i y.exI++r)=.ok (y.bex,r)) (hh:∀y ∈ l,∀i r,HdT (ak E 0 (bj i y.exI++r))):
  na E p (bj i (mD (l.map PT.exI)++[sg 41])++R)=.ok (l.map PT.bex,R):=by
 cases l with
 | nil=>
  unfold na;show (if aL ⟨5,ah 41,i⟩ (ah 41)=true then Except.ok ([],R) else _)=_;rw[fH,af (by decide)];rfl
 | cons x L=>
  have h0:aL (ak E 0 (bj i (mD ((x::L).map PT.exI)++[sg 41])++R)) (ah 41)=false:=by
   have hq:∃q,mD ((x::L).map PT.exI)=x.exI++q:=by
    cases L with
    | nil=>exact⟨[],(lf _).symm⟩
    | cons y L=>exact⟨_,rfl⟩
   obtain⟨q,hq⟩:=hq;have:=hh x (by simp) i (bj (i+(ar x.exI).length) (q++[sg 41])++R)
   rw[hq,fT,mr,fT]
   revert this
   generalize ak E 0 (bj i x.exI++(bj (i+(ar x.exI).length) (q++[sg 41])++R))=t;obtain⟨k,t,a⟩:=t;rintro(h | h | h | ⟨h,h2⟩)
   ·exact jq (by show k≠5;have h:k=1:=h;omega)
   ·exact jq (by show k≠5;have h:k=2:=h;omega)
   ·exact jq (by show k≠5;have h:k=3:=h;omega)
   ·have h:k=5:=h
    subst h;rcases h2 with h2 | h2 | h2
    ·have h2:t=ah 36:=h2
     subst h2;rw[fH];rfl
    ·have h2:t=ah 45:=h2
     subst h2;rw[fH];rfl
    ·have h2:t=ah 40:=h2
     subst h2;rw[fH];rfl
  unfold na;rw[ac (by rw[h0];decide),Fr L x [] 9 i hx (by simpa using hl) (by rw[List.length_cons] at hl;omega)]
  rfl
open Go.RowKit
theorem iK {T:PT} (h:T.badX=0):cO T=0∧∀i,i < T.len→(T.kid i).badX=0:=by
 rw[T.badX_eq] at h
 by_cases q:cO T=0
 ·rw[af q] at h
  exact⟨q,AN h⟩
 ·rw[ac q] at h;exact absurd h q
theorem oK {T:PT} (h:cO T=0):(1≤T.k∧T.k≤13)∧(T.k=1→T.t.size≤65536)∧(T.k=2→0≤T.n)∧(ck T.k=true→ca T.nm=true)∧bF T.k≤(T.len:Int)∧(T.len:Int)≤bE T.k:=by
 unfold cO at h
 by_cases h1:T.k < 1∨13 < T.k
 ·rw[af h1] at h;omega
 ·rw[ac h1] at h
  by_cases h2:T.k=1∧65536 < T.t.size
  ·rw[af h2] at h;omega
  ·rw[ac h2] at h
   by_cases h3:T.k=2∧T.n < 0
   ·rw[af h3] at h;omega
   ·rw[ac h3] at h
    by_cases h4:ck T.k=true∧ca T.nm=false
    ·rw[af h4] at h;omega
    ·rw[ac h4] at h
     by_cases h5:(T.len:Int) < bF T.k∨bE T.k < T.len
     ·rw[af h5] at h;omega
     ·refine⟨by omega,fun q=> ?_,fun q=> ?_,fun q=> ?_,by omega,by omega⟩
      ·rcases cG 65536 T.t.size with z | z
       ·exact absurd ⟨q,z⟩ h2
       ·exact z
      ·by_cases z:T.n < 0
       ·exact absurd ⟨q,z⟩ h3
       ·omega
      ·cases z:ca T.nm with
       | true=>rfl
       | false=>exact absurd ⟨q,z⟩ h4
theorem MN {T:PT} (h:T.len=2):T.lst=[T.kid 0,T.kid 1]:=by rw[zp,h];rfl
theorem qM {T:PT} {lv:Int} {i:Nat} (h:i < T.len):T.kidI lv i=(T.kid i).atl lv:=af h
theorem Db {f g:Nat→List It}:∀n,(∀i,i < n→f i=g i)→i6 f n=i6 g n
 | 0,_=>rfl
 | n+1,h=>by rw[i6,i6,Db n fun i hi=>h i (by omega),h n (by omega)]
section
variable {E:Nat} {T:PT}
theorem xj (hl:bs T.k=5) (hd:∀i r,HdT (ak E 0 (bj i T.exI++r))) (hm:NoM E T.exI) (h:∀d,2 * T.dep≤d+2→kZ E d 5 T.exI T.bex):OwnX E T:=
 ⟨hd,fun _=>hm,fun _=>h,fun e=>absurd (hl.symm.trans e) (by decide),fun lv h1 h3 e=>by rw[hl] at e;omega⟩
theorem own_1 (hk:T.k=1) (h0:T.len=0):OwnX E T:=by
 have hI:T.exI=[tx T.t]:=by rw[T.exI_eq,hk];rfl
 have hB:T.bex=aP 1 T.t 0 ByteArray.empty []:=by rw[T.bex_eq,hk,rP h0];rfl
 refine xj (by rw[hk];rfl) (fun i r=> ?_) (fun i r=> ?_) (fun d _ i r _=> ?_)
 ·rw[hI];exact .inr (.inr (.inl rfl))
 ·rw[hI];exact jq (k:=3) (by decide)
 ·rw[hI,hB];rfl
theorem own_2 (hk:T.k=2) (h0:T.len=0) (hn:0≤T.n) (hs:T.n≤9223372036854775807):OwnX E T:=by
 have hI:T.exI=[nu ⟨(Lib.itoa T.n).toArray⟩]:=by rw[T.exI_eq,hk];rfl
 have hB:T.bex=aP 2 ByteArray.empty T.n ByteArray.empty []:=by rw[T.bex_eq,hk,rP h0];rfl
 refine xj (by rw[hk];rfl) (fun i r=> ?_) (fun i r=> ?_) (fun d _ i r _=> ?_)
 ·rw[hI];exact .inr (.inl rfl)
 ·rw[hI];exact jq (k:=2) (by decide)
 ·rw[hI,hB,tk_nu,qN,xt]
  unfold eY;show (if (2:Nat)=1 then _ else if (2:Nat)=2 then aR (mB E (⟨2,⟨(Lib.itoa T.n).toArray⟩,i⟩::r)) _ else _)=_;rw[ac (by decide),af rfl,nuS_at E hn hs,aQ]
theorem Ck {p:Option Lv} {t:ByteArray} (h:ca t=true) (a:Nat) (r:List Tk):eY E p (⟨1,t,a⟩::r)=
  if aL (ak E 0 r) (ah 60)=true then aR (eX E p r.tail) fun x q=>aR (ef E (ah 62) q) fun _ m=>.ok (aP 4 ByteArray.empty 0 t [x],m)
  else if aL (ak E 0 r) (ah 40)=true then aR (na E p r.tail) fun o q=>.ok (aP 6 ByteArray.empty 0 t o,q)
  else .ok (aP 3 ByteArray.empty 0 t [],r):=by
 unfold eY;show (if (1:Nat)=1 then kE E p (⟨1,t,a⟩::r) else _)=_;rw[af rfl];unfold kE;rw[uu E h,aQ]
theorem own_3 (hk:T.k=3) (h0:T.len=0) (hn:ca T.nm=true):OwnX E T:=by
 have hI:T.exI=[wd T.nm]:=by rw[T.exI_eq,hk];rfl
 have hB:T.bex=aP 3 ByteArray.empty 0 T.nm []:=by rw[T.bex_eq,hk,rP h0];rfl
 refine xj (by rw[hk];rfl) (fun i r=> ?_) (fun i r=> ?_) (fun d _ i r hc=> ?_)
 ·rw[hI];exact .inl rfl
 ·rw[hI];exact jq (k:=1) (by decide)
 ·rw[hI,hB,nW,qN,xt]
  show eY E _ (⟨1,T.nm,i⟩::r)=_;rw[Ck hn,ac (by rw[hc.lt];decide),ac (by rw[hc.br];decide)]
theorem own_4 (hk:T.k=4) (h1:T.len=1) (hn:ca T.nm=true) (hK:OwnX E (T.kid 0)):OwnX E T:=by
 have hI:T.exI=wd T.nm::sg 60::((T.kid 0).exI++[sg 62]):=by
  rw[T.exI_eq,hk];show wd T.nm::sg 60::(T.kidI 0 0++[sg 62])=_;rw[qM (by omega),um]
 have hB:T.bex=aP 4 ByteArray.empty 0 T.nm [(T.kid 0).bex]:=by rw[T.bex_eq,hk,ya h1];rfl
 have jB:=rQ (T:=T) (i:=0) (by omega)
 refine xj (by rw[hk];rfl) (fun i r=> ?_) (fun i r=> ?_) (fun d hd i r _=> ?_)
 ·rw[hI];exact .inl rfl
 ·rw[hI];exact jq (k:=1) (by decide)
 ·rw[hI,hB,nW,gu,mr,gu,qN,xt]
  generalize i+T.nm.data.toList.length=j;show eY E _ (⟨1,T.nm,i⟩::(⟨5,ah 60,j⟩::((bj (j+1) (T.kid 0).exI++[⟨5,ah 62,j+1+(ar (T.kid 0).exI).length⟩])++r)))=_;rw[Ck hn];show (if aL ⟨5,ah 60,j⟩ (ah 60)=true then aR (eX E (bV E d) ((bj (j+1) (T.kid 0).exI++[⟨5,ah 62,j+1+(ar (T.kid 0).exI).length⟩])++r)) _ else _)=_;have e0:eX E (bV E d) ((bj (j+1) (T.kid 0).exI++[(⟨5,ah 62,j+1+(ar (T.kid 0).exI).length⟩:Tk)])++r)=.ok ((T.kid 0).bex,(⟨5,ah 62,j+1+(ar (T.kid 0).exI).length⟩:Tk)::r):=by
   rw[fT];exact hK.any (by omega) (j+1) _ (wg rfl (by decide) (by decide) _ _ (by omega))
  rw[fH,af (by decide),e0,aQ]
  rw[uv,aQ]
theorem own_5 (hk:T.k=5) (h1:T.len=1) (hK:OwnX E (T.kid 0)):OwnX E T:=by
 have hI:T.exI=sg 36::(T.kid 0).atl 5:=by
  rw[T.exI_eq,hk];show sg 36::T.kidI 5 0=_;rw[qM (by omega)]
 have hB:T.bex=k8 5 [(T.kid 0).bex]:=by rw[T.bex_eq,hk,ya h1];rfl
 have jB:=rQ (T:=T) (i:=0) (by omega)
 refine xj (by rw[hk];rfl) (fun i r=> ?_) (fun i r=> ?_) (fun d hd i r hc=> ?_)
 ·rw[hI];exact .inr (.inr (.inr ⟨rfl,.inl rfl⟩))
 ·rw[hI];exact(fH 36 45 i).trans (db (by decide))
 ·have h1:=zU (T.kid 0)
  obtain⟨d',rfl⟩:∃d',d=d'+1:=⟨d - 1,by omega⟩
  rw[hI,hB,gu,xt];unfold eY;show (if (5:Nat)=1 then _ else if (5:Nat)=2 then _ else if (5:Nat)=3 then _ else if aL ⟨5,ah 36,i⟩ (ah 36)=true then aR (uD E (bV E (d'+1)) (bj (i+1) ((T.kid 0).atl 5)++r)) _ else _)=_;rw[ac (by decide),ac (by decide),ac (by decide),fH,af (by decide),KU,hK.atl (lw:=5) (lv:=5) rfl (by decide) (by decide) (by omega) (i+1) r hc,aQ]
theorem own_6 (hk:T.k=6) (h8:T.len≤8) (hn:ca T.nm=true) (hK:∀i,i < T.len→OwnX E (T.kid i)):OwnX E T:=by
 have hI:T.exI=wd T.nm::sg 40::(mD (T.lst.map PT.exI)++[sg 41]):=by
  rw[T.exI_eq,hk];show wd T.nm::sg 40::(i6 (T.kidI 0) T.len++[sg 41])=_;rw[Db T.len (fun i hi=>(qM hi).trans (um _)),Fs,wa]
 have hB:T.bex=aP 6 ByteArray.empty 0 T.nm (T.lst.map PT.bex):=by rw[T.bex_eq,hk];rfl
 refine xj (by rw[hk];rfl) (fun i r=> ?_) (fun i r=> ?_) (fun d hd i r _=> ?_)
 ·rw[hI];exact .inl rfl
 ·rw[hI];exact jq (k:=1) (by decide)
 ·have hm:∀y ∈ T.lst,∃i,i < T.len∧y=T.kid i:=fun y hy=>by
   rw[zp] at hy;obtain⟨i,hi,rfl⟩:=List.mem_map.1 hy;exact⟨i,List.mem_range.1 hi,rfl⟩
  rw[hI,hB,nW,gu,xt];generalize i+T.nm.data.toList.length=j;show eY E _ (⟨1,T.nm,i⟩::(⟨5,ah 40,j⟩::(bj (j+1) (mD (T.lst.map PT.exI)++[sg 41])++r)))=_;rw[Ck hn];show (if aL ⟨5,ah 40,j⟩ (ah 60)=true then _ else if aL ⟨5,ah 40,j⟩ (ah 40)=true then aR (na E (bV E d) (bj (j+1) (mD (T.lst.map PT.exI)++[sg 41])++r)) _ else _)=_;rw[fH,ac (by decide),fH,af (by decide),agS_at T.lst (by rw[PT.lst_len];exact h8) (j+1) (fun y hy i r hc=>by
   obtain⟨m,hm,rfl⟩:=hm y hy;exact(hK m hm).any (by have:=rQ hm;omega) i r hc) (fun y hy i r=>by
   obtain⟨m,hm,rfl⟩:=hm y hy;exact(hK m hm).hd i r),aQ]
theorem own_7 (hk:T.k=7) (h1:T.len=1) (hK:OwnX E (T.kid 0)):OwnX E T:=by
 have hI:T.exI=sg 45::(T.kid 0).atl 4:=by
  rw[T.exI_eq,hk];show sg 45::T.kidI 4 0=_;rw[qM (by omega)]
 have hB:T.bex=k8 7 [(T.kid 0).bex]:=by rw[T.bex_eq,hk,ya h1];rfl
 have jB:=rQ (T:=T) (i:=0) (by omega)
 have hl:bs T.k=4:=by rw[hk];rfl
 refine⟨fun i r=> ?_,fun e=>absurd (hl.symm.trans e) (by decide),fun e=>absurd (hl.symm.trans e) (by decide),fun _ d hd i r hc=> ?_,fun lv h1 h3 e=>by rw[hl] at e;omega⟩
 ·rw[hI];exact .inr (.inr (.inr ⟨rfl,.inr (.inl rfl)⟩))
 ·have h1:=zU (T.kid 0)
  obtain⟨d',rfl⟩:∃d',d=d'+1:=⟨d - 1,by omega⟩
  rw[hI,hB,gu,Gz];unfold gc;show (if aL ⟨5,ah 45,i⟩ (ah 45)=true then aR (uC E (bV E (d'+1)) (bj (i+1) ((T.kid 0).atl 4)++r)) _ else _)=_;rw[fH,af (by decide),Kw,hK.atl (lw:=4) (lv:=4) rfl (by decide) (by decide) (by omega) (i+1) r hc,aQ]
theorem EN {k:Int} (h1:8≤k) (h2:k≤13):∃L:Nat,1≤L∧L≤3∧bs k=(L:Int)∧∃K:Nat,k=(K:Int)∧iD (ah (lI k))=K∧pS K=L∧K≠0∧lI k≠60∧lI k≠40∧lI k≠58∧uA (lI k).toNat=true:=by
 have:k=8∨k=9∨k=10∨k=11∨k=12∨k=13:=by omega
 rcases this with rfl | rfl | rfl | rfl | rfl | rfl
 ·exact⟨1,by decide,by decide,rfl,8,rfl,by decide,rfl,by decide,by decide,by decide,by decide,by decide⟩
 ·exact⟨2,by decide,by decide,rfl,9,rfl,by decide,rfl,by decide,by decide,by decide,by decide,by decide⟩
 ·exact⟨2,by decide,by decide,rfl,10,rfl,by decide,rfl,by decide,by decide,by decide,by decide,by decide⟩
 ·exact⟨3,by decide,by decide,rfl,11,rfl,by decide,rfl,by decide,by decide,by decide,by decide,by decide⟩
 ·exact⟨3,by decide,by decide,rfl,12,rfl,by decide,rfl,by decide,by decide,by decide,by decide,by decide⟩
 ·exact⟨3,by decide,by decide,rfl,13,rfl,by decide,rfl,by decide,by decide,by decide,by decide,by decide⟩
theorem zT (h1:8≤T.k) (h2:T.len=2):T.exI=(T.kid 0).atl (bs T.k)++bl::sg (lI T.k)::bl::(T.kid 1).atl (bs T.k+1):=by
 rw[T.exI_eq];unfold exN;rw[ac (by omega),ac (by omega),ac (by omega),ac (by omega),ac (by omega),ac (by omega),ac (by omega),qM (by omega),qM (by omega)]
theorem MF (h1:8≤T.k) (h13:T.k≤13) (h2:T.len=2) (hK:OwnX E (T.kid 0)) (tQ:OwnX E (T.kid 1)):OwnX E T:=by
 have hI:=zT h1 h2;obtain⟨L,l1,l3,hl,K,eK,hb,hv,vn,n60,n40,n58,hsn⟩:=EN h1 h13;have hnx:ck T.k=false:=db (by omega)
 have hB:T.bex=k8 (K:Int) [(T.kid 0).bex,(T.kid 1).bex]:=by
  rw[T.bex_eq,MN h2,ac (by omega),ac (by omega),ac (by rw[hnx];decide),eK];rfl
 have jB:=rQ (T:=T) (i:=0) (by omega)
 have tK:=rQ (T:=T) (i:=1) (by omega)
 refine⟨fun i r=> ?_,fun e=>by rw[hl] at e;omega,fun e=>by rw[hl] at e;omega,fun e=>by rw[hl] at e;omega,fun lv q1 q3 e d hd i r hc=> ?_⟩
 ·rw[hI,mr,fT]
  exact hK.atlHd _ i _
 ·obtain rfl:lv=L:=by omega
  rw[hI,hB,mr,mx,gu,mx,fT];generalize i+(ar ((T.kid 0).atl (bs T.k))).length+1=j;have rd:∀m,il m ⟨5,ah (lI T.k),j⟩=if m=lv then K else 0:=fun m=>by
   unfold il;show (if (5:Nat)=5∧pS (iD (ah (lI T.k)))=m then iD (ah (lI T.k)) else 0)=_;rw[hb,hv]
   by_cases q:m=lv
   ·rw[af ⟨rfl,q.symm⟩,af q]
   ·rw[ac fun z=>q z.2.symm,ac q]
  show m7 E (bV E d) lv (bj i ((T.kid 0).atl (bs T.k))++(⟨5,ah (lI T.k),j⟩::(bj (j+1+1) ((T.kid 1).atl (bs T.k+1))++r)))=_;have hC:∀l:List Tk,Cnd E (lv+1) ((⟨5,ah (lI T.k),j⟩:Tk)::l):=fun l=>⟨(fH _ 60 j).trans (db n60),(fH _ 40 j).trans (db n40),fun m m1 _=>(rd m).trans (ac (by omega))⟩
  rw[hK.atlChain (d:=d) hl q1 q3 (by omega) i _ (hC _)]
  have bi:il lv (ak E 0 (⟨5,ah (lI T.k),j⟩::(bj (j+1+1) ((T.kid 1).atl (bs T.k+1))++r)))=K:=(rd lv).trans (af rfl);rw[KC (by rw[bi];exact vn),bi]
  show aR (m7 E (bV E d) (lv+1) (bj (j+1+1) ((T.kid 1).atl (bs T.k+1))++r)) _=_;rw[tQ.atl (d:=d) (lw:=bs T.k+1) (lv:=lv+1) (by rw[hl];rfl) (by omega) (by omega) (by omega) (j+1+1) r hc,aQ]
end
theorem xZ {E:Nat}:∀T:PT,T.badX=0→T.ns→OwnX E T:=PT.ind fun T ih hb hn=>by
 obtain⟨he,rd⟩:=iK hb;have hK:∀i,i < T.len→OwnX E (T.kid i):=fun i hi=>ih i hi (rd i hi) (ns_kid hn hi)
 obtain⟨⟨k1,tF⟩, -,hN,dm,hl,hm⟩:=oK he;have hs:=MJ hn;have hc:T.k=1∨T.k=2∨T.k=3∨T.k=4∨T.k=5∨T.k=6∨T.k=7∨8≤T.k:=by omega
 rcases hc with h | h | h | h | h | h | h | h
 ·rw[h] at hm;exact own_1 h (by have:bE 1=0:=rfl;omega)
 ·rw[h] at hm;exact own_2 h (by have:bE 2=0:=rfl;omega) (hN h) hs
 ·rw[h] at hm dm;exact own_3 h (by have:bE 3=0:=rfl;omega) (dm rfl)
 ·rw[h] at hm dm hl
  have h1:T.len=1:=by have:bE 4=1:=rfl;have:bF 4=1:=rfl;omega
  exact own_4 h h1 (dm rfl) (hK 0 (by omega))
 ·rw[h] at hm hl
  have h1:T.len=1:=by have:bE 5=1:=rfl;have:bF 5=1:=rfl;omega
  exact own_5 h h1 (hK 0 (by omega))
 ·rw[h] at hm dm;exact own_6 h (by have:bE 6=8:=rfl;omega) (dm rfl) hK
 ·rw[h] at hm hl
  have h1:T.len=1:=by have:bE 7=1:=rfl;have:bF 7=1:=rfl;omega
  exact own_7 h h1 (hK 0 (by omega))
 ·have h2:bE T.k=2∧bF T.k=2:=by
   have:T.k=8∨T.k=9∨T.k=10∨T.k=11∨T.k=12∨T.k=13:=by omega
   rcases this with h | h | h | h | h | h <;> rw[h] <;> exact⟨rfl,rfl⟩
  have h2':T.len=2:=by omega
  exact MF h tF h2' (hK 0 (by omega)) (hK 1 (by omega))
open Go.RowKit
structure Wn (B z:Nat) (W w:World) (v:Value) (o:List UInt8) (f:Bool) (T:List UInt8) (C:Nat) (w':World) (v':Value) (o':List UInt8) (f':Bool):Prop where
 bel:Below W.heap.size W w'
 wr:WrI B z w' v' o' f'
 wx:WX z w w' v v'
 gw:Gw o T o' C
 ff:f'=(f || eu T)
section
variable {B z:Nat} {W w w1 w2:World} {v v1:Value} {o o1 T t:List UInt8} {f f1:Bool} {C c:Nat}
theorem Wn.start (hb:Below W.heap.size W w) (hW:WrI B z w v o f):Wn B z W w v o f [] 0 w v o f:=⟨hb,hW,WX.refl _ _ _,Gw.refl o,by rw[show eu []=false from rfl,Bool.or_false]⟩
theorem Wn.below (h:Wn B z W w v o f T C w1 v1 o1 f1) (hb:Below w1.heap.size w1 w2):Wn B z W w v o f T C w2 v1 o1 f1:=⟨aq h.bel hb,h.wr.below hb,h.wx.trans (WX.below hb),h.gw,h.ff⟩
theorem Wn.sub (h:Wn B z W w v o f T C w1 v1 o1 f1) (hz:W.heap.size≤z) (hp:uH B z w1 v1 o1 t f1 c w2):∃v2 o2 f2,Wn B z W w v o f (T++t) (C+c) w2 v2 o2 f2∧WX z w1 w2 v1 v2:=by
 obtain⟨v2,o2,h1,h2,h3⟩:=hp;exact⟨v2,o2,_,⟨WX.bel h.bel h.wr hz h1,h2,h.wx.trans h1,h.gw.trans h3,by rw[h.ff,DZ,Bool.or_assoc]⟩,h1⟩
theorem Wn.done (h:Wn B z W w v o f T C w1 v1 o1 f1) (e:T=t) (hc:C≤c):uH B z w v o t f c w1:=by
 subst e;exact⟨v1,o1,h.wx,by rw[←h.ff];exact h.wr,h.gw.more hc⟩
theorem Wn.len (h:Wn B z W w v o f T C w1 v1 o1 f1) {n:Nat} (hC:max o.length 140000+C≤n):o1.length≤n:=bv h.gw.most hC
theorem Wn.len2 (h:Wn B z W w v o f T C w1 v1 o1 f1) {d n:Nat} (hC:max o.length 140000+(C+d)≤n):max o1.length 140000+d≤n:=by have:=h.gw.most;omega
theorem Wn.put (h:Wn B z W w v o f T C w1 v1 o1 f1) (hE:EnvW W) (hz:W.heap.size≤z) (hC:max o.length 140000+C≤10000000) (l:List ByteArray) (hl:l.length≤11) (hs:∀t ∈ l,t.size≤200000) (c:Nat) (hc:(bH l).length≤c):
  Calls prog 42 #[.pointer (some ⟨z,0,none⟩),.slice (some ⟨w1.heap.size,0,none⟩) l.length l.length] (w1.alloc (.cells (l.map Value.string).toArray 9)) fun e w'=>e=.returned (.tuple #[])∧∃v2 o2 f2,Wn B z W w v o f (T++bH l) (C+c) w' v2 o2 f2∧WX z w1 w' v1 v2:=
 (FF hE h.bel hz h.wr l hl hs (h.len hC) rfl).mono fun _ _ k=>⟨k.1,h.sub hz (k.2.st.cast rfl hc)⟩
theorem WX.keep {n:Nat} {cs:Array Value} {ty:TypeId} (hW:WrI B z w1 v1 o1 f1) (hx:w1.heap[n]? =some (.cells cs ty (0,0))) (ht:ty≠5) (hn:n≠z) {v2:Value} (k:WX z w1 w2 v1 v2):w2.heap[n]? =some (.cells cs ty (0,0)):=by
 refine(k.block n (bC.1 hx).1 hn fun e=> ?_).trans hx
 rcases hW.row.2 with ⟨rfl, -⟩ | ⟨g,cap,cur,rfl, -,hg, -⟩
 ·cases e
 ·have e:n=g:=by injection e
  subst e;rw[hx] at hg;injection hg with hg
  injection hg with _ hg _
  exact ht hg
end
def sY (T:PT):Prop:=∀(W w:World) (B z:Nat) (v:Value) (o:List UInt8) (f:Bool) (lv:Int),EnvW W→T.In W→Below W.heap.size W w→W.heap.size≤z→WrI B z w v o f→T.badX=0→max o.length 140000+40 * T.cnt≤9000000→
 Calls prog 43 #[.pointer (some ⟨z,0,none⟩),pv T,.int .i64 lv] w fun e w'=>ik B z w v o (ar (T.atl lv)) f (40 * T.cnt) e w'
def rT (T:PT):Prop:=∀(W w:World) (B z:Nat) (v:Value) (o:List UInt8) (f:Bool),EnvW W→T.In W→Below W.heap.size W w→W.heap.size≤z→WrI B z w v o f→T.badX=0→max o.length 140000+(40 * T.cnt - 2)≤9000000→
 Calls prog 80 #[.pointer (some ⟨z,0,none⟩),pv T] w fun e w'=>ik B z w v o (ar T.exI) f (40 * T.cnt - 2) e w'
theorem nV {W:World} {g:Nat} {a b c d e:Value} {t:TypeId} (h:W.heap[g]? =some (.cells #[a,b,c,d,e] t (0,0))):
  W.cell? ⟨g,0,none⟩=some a∧W.cell? ⟨g,1,none⟩=some b∧W.cell? ⟨g,2,none⟩=some c∧W.cell? ⟨g,3,none⟩=some d∧W.cell? ⟨g,4,none⟩=some e:=by
 refine⟨?_, ?_, ?_, ?_, ?_⟩ <;> rw[eB _ _ _ _ _ _ h] <;> rfl
theorem E4 {T:PT} (hba:rT T):sY T:=by
 intro W w B z v o f lv hE hT hb hz hW aA bU;obtain⟨⟨k1,tF⟩, -⟩:=oK (iK aA).1;obtain⟨K,hK⟩:∃K:Nat,T.k=(K:Int):=⟨T.k.toNat,by omega⟩
 obtain⟨s0,s1,s2,s3,s4⟩:=(hE.shx.later hb) K (by omega) (by omega)
 have j8:(0:Nat) < w.heap.size:=da _ _ s0;have hgl':¬w.heap.size=0:=by omega
 have h1:¬(K:Int) < 0:=by omega
 have h2:(K:Int) < 14:=by omega
 have iT:=T.cnt_pos;have hzl:z < w.heap.size:=(bC.1 hW.blk).1;obtain⟨w1,aI⟩:∃w1,w1=w.alloc (.cells #[.int .i64 (K:Int),.string T.t,.int .i64 T.n,.string T.nm,.slice T.xa T.len T.cap] 24):=⟨_,rfl⟩;have bp:Below w.heap.size w w1:=by rw[aI];exact ba _
 have am:w1.heap[w.heap.size]? =some (.cells #[.int .i64 (K:Int),.string T.t,.int .i64 T.n,.string T.nm,.slice T.xa T.len T.cap] 24 (0,0)):=by rw[aI];exact ax rfl
 have H1:=ab ((Wn.start hb hW).below bp);have bA:=ab am;have bG:Hid (w.alloc (.cells #[.int .i64 (K:Int),.string T.t,.int .i64 T.n,.string T.nm,.slice T.xa T.len T.cap] 24)=w1):=ab (aI.symm);have rF:=ab (fun (w2:World) (v2:Value) (o2:List UInt8) (f2:Bool) h3 h4 h5=>show Calls prog 80 #[.pointer (some ⟨z,0,none⟩),.agg #[.int .i64 (K:Int),.string T.t,.int .i64 T.n,.string T.nm,.slice T.xa T.len T.cap]] w2 fun e w'=>ik B z w2 v2 o2 (ar T.exI) f2 (40 * T.cnt - 2) e w' from by
  have:=hba W w2 B z v2 o2 f2 hE hT h3 hz h4 aA h5;unfold pv at this;rw[hK] at this;exact this)
 have mR:Hid (T.atl lv=inP (decide (bs (K:Int) < lv)) T.exI):=ab (by unfold PT.atl;rw[hK])
 have HZ:=ab (And.intro hE hz);have bX:w.heap.size≠z:=by omega
 unfold pv;rw[hK];generalize bs (K:Int)=L at *;clear hK aA hT hE hb hW bp am aI hba
 by_cases hlv:L < lv
 ·have q:¬lv≤L:=by omega
  have HT:Hid (ar (T.atl lv)=[40]++(ar T.exI++[41])):=ab (by rw[aa mR,fk hlv];show ar (sg 40::(T.exI++[sg 41]))=_;rw[dq,fW];rfl)
  have cg:Hid (Calls prog 42 #[.pointer (some ⟨z,0,none⟩),.slice (some ⟨w1.heap.size,0,none⟩) 1 1] (w1.alloc (.cells #[.string ⟨#[40]⟩] 9)) _):=ab ((aa H1).put (aa HZ).1 (aa HZ).2 (by omega) [ah 40] (by simp) (fun t ht=>by rw[jv] at ht;subst ht;exact(by decide:(1:Nat)≤200000)) 1 (by decide))
  clear hlv mR;obtain⟨c0,c1,c2,c3,c4⟩:=nV (aa bA);have gP:w1.heap.size=w.heap.size+1:=by rw[←aa bG,dS]
  rw[gP] at cg;clear c0 c1 c2 c3 c4 gP;go_enter func43,ntmps43;go_wp2_with fail;rw[aa bG];refine(aa cg).mono ?_;rintro e w2 ⟨rfl,v2,o2,f2,h2,cJ⟩;have yU:=cJ.keep (aa H1).wr (aa bA) (by decide) bX
  have H2:=ab h2;obtain⟨c0,c1,c2,c3,c4⟩:=nV yU;have aE:=ab (aa rF w2 v2 o2 f2 h2.bel h2.wr (h2.len2 (by omega)))
  clear h2 cJ cg H1 yU bA;go_wp2_with fail;refine(aa aE).mono ?_;rintro e w3 ⟨rfl,bg⟩;obtain⟨v3,o3,f3,h3, -⟩:=(aa H2).sub (aa HZ).2 bg;have gq:Hid (Calls prog 42 #[.pointer (some ⟨z,0,none⟩),.slice (some ⟨w3.heap.size,0,none⟩) 1 1] (w3.alloc (.cells #[.string ⟨#[41]⟩] 9)) _):=ab (h3.put (aa HZ).1 (aa HZ).2 (by omega) [ah 41] (by simp) (fun t ht=>by rw[jv] at ht;subst ht;exact(by decide:(1:Nat)≤200000)) 1 (by decide))
  clear bg h3 aE H2 c0 c1 c2 c3 c4;go_wp2_with fail;refine(aa gq).mono ?_;rintro e w4 ⟨rfl,v4,o4,f4,h4, -⟩;have HF:=ab (h4.done (t:=ar (T.atl lv)) (c:=40 * T.cnt) (by rw[aa HT,fw,fw];show []++[40]++ar T.exI++[41]=_;simp) (by omega))
  go_wp2_with fail;go_end0;exact⟨rfl,aa HF⟩
 ·have q:lv≤L:=by omega
  have HT:Hid (ar (T.atl lv)=ar T.exI):=ab (by rw[aa mR,db hlv];rfl)
  clear hlv mR;have aX:=ab (aa rF w1 v o f (aa H1).bel (aa H1).wr (by omega))
  go_enter func43,ntmps43;go_wp2_with fail;rw[aa bG];refine(aa aX).mono ?_;rintro e w2 ⟨rfl,bg⟩;obtain⟨v3,o3,f3,h3, -⟩:=(aa H1).sub (aa HZ).2 bg;have HF:=ab (h3.done (t:=ar (T.atl lv)) (c:=40 * T.cnt) (by rw[aa HT];rfl) (by omega))
  clear bg h3;go_wp2_with fail;go_end0;exact⟨rfl,aa HF⟩
open Go
section
variable {P:Program} {ops:Array Oper} {Q:Exit→Act→World→Prop} {S:World→Prop} {n:Nat}
def iL (P:Program) (ops:Array Oper) (Q:Exit→Act→World→Prop) (S:World→Prop) (n:Nat):Nat→Array Bool→Act→World→Prop
 | 0,listed,a,w=>Region.ready .any ops listed=[]∧Q .normal a w
 | f+1,listed,a,w=>(Region.ready .any ops listed=[]→Q .normal a w)∧
  ∀i ∈ Region.ready .any ops listed,wpOp P ops Q i (fun a' w'=>(i≠n→S w')∧iL P ops Q S n f (listed.setIfInBounds i true) a' w') a w
theorem iL.any:∀(f:Nat) (listed:Array Bool) (a:Act) (w:World),iL P ops Q S n f listed a w→wpAny P .any ops Q f listed a w
 | 0,_,_,_,h=>h
 | f+1,_,_,_,h=>⟨h.1,fun i hi=>wpOp_mono (fun a' w' k=>iL.any f _ a' w' k.2) (h.2 i hi)⟩
structure Sink (ops:Array Oper) (n:Nat):Prop where
 sel:Region.noSelect ops=true
 sink:Region.sinkB .any ops n=true
 chain:Region.chainB .any ops n=true
 size:ops.size=n+1
abbrev kF (ops:Array Oper) (n:Nat) (listed:Array Bool):Prop:=HeadInv .any ops n listed
theorem JT:kF ops n (Array.replicate ops.size false):=
 ⟨by simp,fun j oj _ h=>(by rw[getD_replicate_false] at h;cases h),fun t _ ht=>(by simp[ht])⟩
theorem firstE {i:Nat} {oi:Oper} {v:Value} (F:Sink ops n) (hi:ops[i]? =some oi) (mN:i < n) (hQ:∀c a w,Q (.panic c) (a.put oi.dst v) w→Q (.panic c) a w):
  ∀(f:Nat) (listed:Array Bool) (a:Act) (w:World),kF ops n listed→
   (∀j oj,ops[j]? =some oj→j≠i→listed.getD j true=false→(∀e ∈ oj.after,Region.binds .any e=true→e.on≠i)→oi.apart ops oj=true)→
   i ∈ Region.ready .any ops listed→YieldsIf P ops S oi v a→S w→
   iL P ops Q S n f (listed.setIfInBounds i true) (a.put oi.dst v) w→iL P ops Q S n (f+1) listed a w:=by
 have hsel:=Region.noSelect_spec F.sel;intro f
 induction f with
 | zero=>
  intro listed a w _ _ hr hy hS H;refine⟨fun h=>absurd hr (by rw[h];exact eg),fun j hj=> ?_⟩
  by_cases e:j=i
  ·subst e
   exact hy.wpOp hi hS ⟨fun _=>hS,H⟩
  ·exact absurd (ready_mono hj e) (by rw[H.1];exact eg)
 | succ f ih=>
  intro listed a w inv GI hr hy hS H;refine⟨fun h=>absurd hr (by rw[h];exact eg),fun j hj=> ?_⟩
  by_cases e:j=i
  ·subst e
   exact hy.wpOp hi hS ⟨fun _=>hS,H⟩
  ·obtain⟨hju,oj,hoj,gM⟩:=ol.1 hj
   have hiu:=(ol.1 hr).1;have ss:j < ops.size:=(bC.1 hoj).1;have hjn:j≠n:=fun x=>tail_waits F.sink F.chain (by rw[F.size];omega) inv (n - i) i rfl mN hiu j (by omega) hj
   have hjn':j < n:=by have:=F.size;omega
   have hno:∀e ∈ oj.after,Region.binds .any e=true→e.on≠i:=fun e he hb x=>by
    have h1:=gM e he hb;rw[x,getD_both hiu] at h1
    cases h1
   have h2:=wpOp_putIf hoj (GI j oj hoj e hju hno) (fun cs b=>hsel i oi cs b hi) (fun cs b=>hsel j oj cs b hoj) hQ hy (H.2 j (ready_mono hj e))
   refine wpOp_mono (fun a' w' h3=> ?_) h2
   obtain⟨hy',hS',h4⟩:=h3;refine⟨fun _=>hS' hjn,ih (listed.setIfInBounds j true) a' w' (inv.set hj hjn') (fun k ok hk hki hun jP=> ?_) (ready_mono hr (Ne.symm e)) hy' (hS' hjn) ?_⟩
   ·refine GI k ok hk hki ?_ jP
    by_cases x:j=k
    ·rw[←x];exact hju
    ·rw[getD_set_ne true x] at hun;exact hun
   ·rw[Array.setIfInBounds_comm _ _ e];exact h4
theorem Cf {i:Nat} {oi:Oper} {v:Value} {f:Nat} {listed:Array Bool} {a:Act} {w:World} (F:Sink ops n) (hi:ops[i]? =some oi) (hf:Region.free .any ops listed i=true)
  (hr:(Region.ready .any ops listed).contains i=true) (mN:decide (i < n)=true) (hQ:∀c a w,Q (.panic c) (a.put oi.dst v) w→Q (.panic c) a w) (hS:S w) (hy:YieldsIf P ops S oi v a)
  (h:kF ops n (listed.setIfInBounds i true)→iL P ops Q S n f (listed.setIfInBounds i true) (a.put oi.dst v) w):kF ops n listed→iL P ops Q S n (f+1) listed a w:=fun inv=>
 have hr':i ∈ Region.ready .any ops listed:=by simpa using hr
 firstE F hi (nf mN) hQ f listed a w inv (Region.free_spec hi hf) hr' hy hS (h (inv.set hr' (nf mN)))
theorem stepE {i:Nat} {o:Oper} {f:Nat} {listed:Array Bool} {a:Act} {w:World} (hr:Region.ready .any ops listed=[i]) (hi:ops[i]? =some o) (mN:decide (i < n)=true)
  (h:∀K:Act→World→Prop,(∀a' w',S w'→(kF ops n (listed.setIfInBounds i true)→iL P ops Q S n f (listed.setIfInBounds i true) a' w')→K a' w')→
   if Region.wanted o (yielded ops a.tmps)=true then Oper.wp P o a w K Q else K (a.put o.dst undef) w):kF ops n listed→iL P ops Q S n (f+1) listed a w:=fun inv=>
 ⟨fun h0=>absurd (hr▸h0) (by simp),fun j hj=>by
  have hj':j=i:=by rw[hr] at hj;simpa using hj
  subst hj';exact wpOp_step hi fun K hK=>h K fun a' w' hS hA=>hK a' w' ⟨fun _=>hS,hA (inv.set hj (nf mN))⟩⟩
theorem gy {o:Oper} {f:Nat} {listed:Array Bool} {a:Act} {w:World} (hr:Region.ready .any ops listed=[n]) (hi:ops[n]? =some o) (hd:Region.ready .any ops (listed.setIfInBounds n true)=[])
  (h:∀K:Act→World→Prop,(∀a' w',Q .normal a' w'→K a' w')→
   if Region.wanted o (yielded ops a.tmps)=true then Oper.wp P o a w K Q else K (a.put o.dst undef) w):kF ops n listed→iL P ops Q S n (f+1) listed a w:=fun _=>
 ⟨fun h0=>absurd (hr▸h0) (by simp),fun j hj=>by
  have hj':j=n:=by rw[hr] at hj;simpa using hj
  subst hj';refine wpOp_step hi fun K hK=>h K fun a' w' hq=>hK a' w' ⟨fun x=>absurd rfl x, ?_⟩
  cases f with
  | zero=>exact⟨hd,hq⟩
  | succ f=>exact⟨fun _=>hq,by rw[hd];exact fun _ h=>absurd h eg⟩⟩
theorem aK {f:Nat} {listed:Array Bool} {a:Act} {w:World} (F:Sink ops n) (i:Nat) {oi:Oper} {v:Value} {S':World→Prop} (H:RowKit.Hid (S=S')) (hS:S w)
  (h:kF ops n (listed.setIfInBounds i true)→iL P ops Q S n f (listed.setIfInBounds i true) (a.put oi.dst v) w)
  (hi:ops[i]? =some oi:=by rfl) (hf:Region.free .any ops listed i=true:=by kernel_rfl) (hr:(Region.ready .any ops listed).contains i=true:=by kernel_rfl) (mN:decide (i < n)=true:=by rfl)
  (hw:Region.wanted oi (yielded ops a.tmps)=true:=by rfl)
  (hy:∀w,S' w→(execOp a.eval oi).run P w=.ok (.value v) w:=by intro w hSw;(try dsimp only at hSw);go_split_ands;(go_simp <;> (try with_reducible rfl)))
  (hQ:∀c a w,Q (.panic c) (a.put oi.dst v) w→Q (.panic c) a w:=by exact fun _ _ _ h=>h):kF ops n listed→iL P ops Q S n (f+1) listed a w:=
 Cf F hi hf hr mN hQ hS (Or.inl ⟨hw,fun w h=>hy w (by rw[show S=S' from H] at h;exact h)⟩) h
theorem ce (i:Nat) {o:Oper} {f:Nat} {listed:Array Bool} {a:Act} {w:World}
  (h:∀K:Act→World→Prop,(∀a' w',S w'→(kF ops n (listed.setIfInBounds i true)→iL P ops Q S n f (listed.setIfInBounds i true) a' w')→K a' w')→
   if Region.wanted o (yielded ops a.tmps)=true then Oper.wp P o a w K Q else K (a.put o.dst undef) w)
  (hr:Region.ready .any ops listed=[i]:=by kernel_rfl) (hi:ops[i]? =some o:=by rfl) (mN:decide (i < n)=true:=by rfl):kF ops n listed→iL P ops Q S n (f+1) listed a w:=
 stepE hr hi mN h
theorem startE {id:Nat} {a:Act} {w:World} (hm:P.follows .mixedOrders=true) (n:Nat) (S:World→Prop) (F:Sink ops n) (h:Sink ops n→kF ops n (Array.replicate ops.size false)→iL P ops Q S n ops.size (Array.replicate ops.size false) a w.drew):(Code.region id ops true).wp P Q a w:=
 wp_region_any hm (iL.any _ _ _ _ (h F JT))
theorem gt {id:Nat} {a:Act} {w:World} (n:Nat) (S:World→Prop) (h:Sink ops n→kF ops n (Array.replicate ops.size false)→iL P ops Q S n ops.size (Array.replicate ops.size false) a w.drew)
  (hm:P.follows .mixedOrders=true:=by kernel_rfl) (h1:Region.noSelect ops=true:=by kernel_rfl) (h2:Region.sinkB .any ops n=true:=by kernel_rfl) (h3:Region.chainB .any ops n=true:=by kernel_rfl) (h4:ops.size=n+1:=by rfl):(Code.region id ops true).wp P Q a w:=
 startE hm n S ⟨h1,h2,h3,h4⟩ h
end
end Go.Proofs.YtlmnjbipfacniaaGreatDoor
