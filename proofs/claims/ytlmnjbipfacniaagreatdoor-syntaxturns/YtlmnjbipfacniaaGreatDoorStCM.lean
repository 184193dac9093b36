/- Expressions that are written are read: each kind. Statements -/
import Derived.Test.YtlmnjbipfacniaaGreatDoorPlCM
import Derived.Test.YtlmnjbipfacniaaGreatDoorStBM
import Derived.Deep.Cut
import Derived.Deep.CutRange
set_option maxRecDepth 100000
set_option maxHeartbeats 16000000
namespace Go.Proofs.YtlmnjbipfacniaaGreatDoor
open Go.Proofs.Tryz
open Go.RowKit
theorem iV {T:PT} (h:T.badX=0):cJ T=0∧∀i,i < T.len→(T.kid i).badX=0:=by
 rw[T.badX_eq] at h
 by_cases q:cJ T=0
 ·rw[af q] at h
  exact⟨q,AY h⟩
 ·rw[ac q] at h;exact absurd h q
theorem oz {T:PT} (h:cJ T=0):(1≤T.k∧T.k≤13)∧(T.k=1→T.t.size≤65536)∧(T.k=2→0≤T.n)∧(bW T.k=true→bp T.nm=true)∧bG T.k≤(T.len:Int)∧(T.len:Int)≤bF T.k:=by
 unfold cJ at h
 by_cases h1:T.k < 1∨13 < T.k
 ·rw[af h1] at h;omega
 ·rw[ac h1] at h
  by_cases h2:T.k=1∧65536 < T.t.size
  ·rw[af h2] at h;omega
  ·rw[ac h2] at h
   by_cases h3:T.k=2∧T.n < 0
   ·rw[af h3] at h;omega
   ·rw[ac h3] at h
    by_cases h4:bW T.k=true∧bp T.nm=false
    ·rw[af h4] at h;omega
    ·rw[ac h4] at h
     by_cases h5:(T.len:Int) < bG T.k∨bF T.k < T.len
     ·rw[af h5] at h;omega
     ·refine⟨by omega,fun q=> ?_,fun q=> ?_,fun q=> ?_,by omega,by omega⟩
      ·rcases cX 65536 T.t.size with z | z
       ·exact absurd ⟨q,z⟩ h2
       ·exact z
      ·by_cases z:T.n < 0
       ·exact absurd ⟨q,z⟩ h3
       ·omega
      ·cases z:bp T.nm with
       | true=>rfl
       | false=>exact absurd ⟨q,z⟩ h4
theorem Ng {T:PT} (h:T.len=2):T.lst=[T.kid 0,T.kid 1]:=by rw[zv,h];rfl
theorem qr {T:PT} {lv:Int} {i:Nat} (h:i < T.len):T.kidI lv i=(T.kid i).atl lv:=af h
theorem Dw {f g:Nat→List It}:∀n,(∀i,i < n→f i=g i)→jm f n=jm g n
 | 0,_=>rfl
 | n+1,h=>by rw[jm,jm,Dw n fun i hi=>h i (by omega),h n (by omega)]
section
variable {E:Nat} {T:PT}
theorem xf (hl:bB T.k=5) (hd:∀i r,HdT (ak E 0 (bs i T.exI++r))) (hm:NoM E T.exI) (h:∀d,2 * T.dep≤d+2→kX E d 5 T.exI T.bex):OwnX E T:=
 ⟨hd,fun _=>hm,fun _=>h,fun e=>absurd (hl.symm.trans e) (by decide),fun lv h1 h3 e=>by rw[hl] at e;omega⟩
theorem own_1 (hk:T.k=1) (h0:T.len=0):OwnX E T:=by
 have hI:T.exI=[tx T.t]:=by rw[T.exI_eq,hk];rfl
 have hB:T.bex=aI 1 T.t 0 ByteArray.empty []:=by rw[T.bex_eq,hk,rx h0];rfl
 refine xf (by rw[hk];rfl) (fun i r=> ?_) (fun i r=> ?_) (fun d _ i r _=> ?_)
 ·rw[hI];exact .inr (.inr (.inl rfl))
 ·rw[hI];exact jz (k:=3) (by decide)
 ·rw[hI,hB];rfl
theorem own_2 (hk:T.k=2) (h0:T.len=0) (hn:0≤T.n) (hs:T.n≤9223372036854775807):OwnX E T:=by
 have hI:T.exI=[nu ⟨(Lib.itoa T.n).toArray⟩]:=by rw[T.exI_eq,hk];rfl
 have hB:T.bex=aI 2 ByteArray.empty T.n ByteArray.empty []:=by rw[T.bex_eq,hk,rx h0];rfl
 refine xf (by rw[hk];rfl) (fun i r=> ?_) (fun i r=> ?_) (fun d _ i r _=> ?_)
 ·rw[hI];exact .inr (.inl rfl)
 ·rw[hI];exact jz (k:=2) (by decide)
 ·rw[hI,hB,tk_nu,qs,xq]
  unfold fi;show (if (2:Nat)=1 then _ else if (2:Nat)=2 then aR (lW E (⟨2,⟨(Lib.itoa T.n).toArray⟩,i⟩::r)) _ else _)=_;rw[ac (by decide),af rfl,nuS_at E hn hs,aT]
theorem CG {p:Option Lv} {t:ByteArray} (h:bp t=true) (a:Nat) (r:List Tk):fi E p (⟨1,t,a⟩::r)=
  if aM (ak E 0 r) (ah 60)=true then aR (eV E p r.tail) fun x q=>aR (ee E (ah 62) q) fun _ m=>.ok (aI 4 ByteArray.empty 0 t [x],m)
  else if aM (ak E 0 r) (ah 40)=true then aR (mE E p r.tail) fun o q=>.ok (aI 6 ByteArray.empty 0 t o,q)
  else .ok (aI 3 ByteArray.empty 0 t [],r):=by
 unfold fi;show (if (1:Nat)=1 then kj E p (⟨1,t,a⟩::r) else _)=_;rw[af rfl];unfold kj;rw[uD E h,aT]
theorem own_3 (hk:T.k=3) (h0:T.len=0) (hn:bp T.nm=true):OwnX E T:=by
 have hI:T.exI=[wd T.nm]:=by rw[T.exI_eq,hk];rfl
 have hB:T.bex=aI 3 ByteArray.empty 0 T.nm []:=by rw[T.bex_eq,hk,rx h0];rfl
 refine xf (by rw[hk];rfl) (fun i r=> ?_) (fun i r=> ?_) (fun d _ i r hc=> ?_)
 ·rw[hI];exact .inl rfl
 ·rw[hI];exact jz (k:=1) (by decide)
 ·rw[hI,hB,nM,qs,xq]
  show fi E _ (⟨1,T.nm,i⟩::r)=_;rw[CG hn,ac (by rw[hc.lt];decide),ac (by rw[hc.br];decide)]
theorem own_4 (hk:T.k=4) (h1:T.len=1) (hn:bp T.nm=true) (hK:OwnX E (T.kid 0)):OwnX E T:=by
 have hI:T.exI=wd T.nm::sg 60::((T.kid 0).exI++[sg 62]):=by
  rw[T.exI_eq,hk];show wd T.nm::sg 60::(T.kidI 0 0++[sg 62])=_;rw[qr (by omega),ux]
 have hB:T.bex=aI 4 ByteArray.empty 0 T.nm [(T.kid 0).bex]:=by rw[T.bex_eq,hk,yh h1];rfl
 have jL:=ry (T:=T) (i:=0) (by omega)
 refine xf (by rw[hk];rfl) (fun i r=> ?_) (fun i r=> ?_) (fun d hd i r _=> ?_)
 ·rw[hI];exact .inl rfl
 ·rw[hI];exact jz (k:=1) (by decide)
 ·rw[hI,hB,nM,gD,mt,gD,qs,xq]
  generalize i+T.nm.data.toList.length=j;show fi E _ (⟨1,T.nm,i⟩::(⟨5,ah 60,j⟩::((bs (j+1) (T.kid 0).exI++[⟨5,ah 62,j+1+(ar (T.kid 0).exI).length⟩])++r)))=_;rw[CG hn];show (if aM ⟨5,ah 60,j⟩ (ah 60)=true then aR (eV E (bV E d) ((bs (j+1) (T.kid 0).exI++[⟨5,ah 62,j+1+(ar (T.kid 0).exI).length⟩])++r)) _ else _)=_;have e0:eV E (bV E d) ((bs (j+1) (T.kid 0).exI++[(⟨5,ah 62,j+1+(ar (T.kid 0).exI).length⟩:Tk)])++r)=.ok ((T.kid 0).bex,(⟨5,ah 62,j+1+(ar (T.kid 0).exI).length⟩:Tk)::r):=by
   rw[gg];exact hK.any (by omega) (j+1) _ (we rfl (by decide) (by decide) _ _ (by omega))
  rw[fS,af (by decide),e0,aT]
  rw[uE,aT]
theorem own_5 (hk:T.k=5) (h1:T.len=1) (hK:OwnX E (T.kid 0)):OwnX E T:=by
 have hI:T.exI=sg 36::(T.kid 0).atl 5:=by
  rw[T.exI_eq,hk];show sg 36::T.kidI 5 0=_;rw[qr (by omega)]
 have hB:T.bex=kl 5 [(T.kid 0).bex]:=by rw[T.bex_eq,hk,yh h1];rfl
 have jL:=ry (T:=T) (i:=0) (by omega)
 refine xf (by rw[hk];rfl) (fun i r=> ?_) (fun i r=> ?_) (fun d hd i r hc=> ?_)
 ·rw[hI];exact .inr (.inr (.inr ⟨rfl,.inl rfl⟩))
 ·rw[hI];exact(fS 36 45 i).trans (dh (by decide))
 ·have h1:=z6 (T.kid 0)
  obtain⟨d',rfl⟩:∃d',d=d'+1:=⟨d - 1,by omega⟩
  rw[hI,hB,gD,xq];unfold fi;show (if (5:Nat)=1 then _ else if (5:Nat)=2 then _ else if (5:Nat)=3 then _ else if aM ⟨5,ah 36,i⟩ (ah 36)=true then aR (rJ E (bV E (d'+1)) (bs (i+1) ((T.kid 0).atl 5)++r)) _ else _)=_;rw[ac (by decide),ac (by decide),ac (by decide),fS,af (by decide),Ls,hK.atl (lw:=5) (lv:=5) rfl (by decide) (by decide) (by omega) (i+1) r hc,aT]
theorem own_6 (hk:T.k=6) (h8:T.len≤8) (hn:bp T.nm=true) (hK:∀i,i < T.len→OwnX E (T.kid i)):OwnX E T:=by
 have hI:T.exI=wd T.nm::sg 40::(mD (T.lst.map PT.exI)++[sg 41]):=by
  rw[T.exI_eq,hk];show wd T.nm::sg 40::(jm (T.kidI 0) T.len++[sg 41])=_;rw[Dw T.len (fun i hi=>(qr hi).trans (ux _)),FL,wa]
 have hB:T.bex=aI 6 ByteArray.empty 0 T.nm (T.lst.map PT.bex):=by rw[T.bex_eq,hk];rfl
 refine xf (by rw[hk];rfl) (fun i r=> ?_) (fun i r=> ?_) (fun d hd i r _=> ?_)
 ·rw[hI];exact .inl rfl
 ·rw[hI];exact jz (k:=1) (by decide)
 ·have hm:∀y ∈ T.lst,∃i,i < T.len∧y=T.kid i:=fun y hy=>by
   rw[zv] at hy;obtain⟨i,hi,rfl⟩:=List.mem_map.1 hy;exact⟨i,List.mem_range.1 hi,rfl⟩
  rw[hI,hB,nM,gD,xq];generalize i+T.nm.data.toList.length=j;show fi E _ (⟨1,T.nm,i⟩::(⟨5,ah 40,j⟩::(bs (j+1) (mD (T.lst.map PT.exI)++[sg 41])++r)))=_;rw[CG hn];show (if aM ⟨5,ah 40,j⟩ (ah 60)=true then _ else if aM ⟨5,ah 40,j⟩ (ah 40)=true then aR (mE E (bV E d) (bs (j+1) (mD (T.lst.map PT.exI)++[sg 41])++r)) _ else _)=_;rw[fS,ac (by decide),fS,af (by decide),agS_at T.lst (by rw[PT.lst_len];exact h8) (j+1) (fun y hy i r hc=>by
   obtain⟨m,hm,rfl⟩:=hm y hy;exact(hK m hm).any (by have:=ry hm;omega) i r hc) (fun y hy i r=>by
   obtain⟨m,hm,rfl⟩:=hm y hy;exact(hK m hm).hd i r),aT]
theorem own_7 (hk:T.k=7) (h1:T.len=1) (hK:OwnX E (T.kid 0)):OwnX E T:=by
 have hI:T.exI=sg 45::(T.kid 0).atl 4:=by
  rw[T.exI_eq,hk];show sg 45::T.kidI 4 0=_;rw[qr (by omega)]
 have hB:T.bex=kl 7 [(T.kid 0).bex]:=by rw[T.bex_eq,hk,yh h1];rfl
 have jL:=ry (T:=T) (i:=0) (by omega)
 have hl:bB T.k=4:=by rw[hk];rfl
 refine⟨fun i r=> ?_,fun e=>absurd (hl.symm.trans e) (by decide),fun e=>absurd (hl.symm.trans e) (by decide),fun _ d hd i r hc=> ?_,fun lv h1 h3 e=>by rw[hl] at e;omega⟩
 ·rw[hI];exact .inr (.inr (.inr ⟨rfl,.inr (.inl rfl)⟩))
 ·have h1:=z6 (T.kid 0)
  obtain⟨d',rfl⟩:∃d',d=d'+1:=⟨d - 1,by omega⟩
  rw[hI,hB,gD,GZ];unfold fC;show (if aM ⟨5,ah 45,i⟩ (ah 45)=true then aR (rI E (bV E (d'+1)) (bs (i+1) ((T.kid 0).atl 4)++r)) _ else _)=_;rw[fS,af (by decide),KY,hK.atl (lw:=4) (lv:=4) rfl (by decide) (by decide) (by omega) (i+1) r hc,aT]
theorem E7 {k:Int} (h1:8≤k) (h2:k≤13):∃L:Nat,1≤L∧L≤3∧bB k=(L:Int)∧∃K:Nat,k=(K:Int)∧gT (ah (lG k))=K∧pF K=L∧K≠0∧lG k≠60∧lG k≠40∧lG k≠58∧uI (lG k).toNat=true:=by
 have:k=8∨k=9∨k=10∨k=11∨k=12∨k=13:=by omega
 rcases this with rfl | rfl | rfl | rfl | rfl | rfl
 ·exact⟨1,by decide,by decide,rfl,8,rfl,by decide,rfl,by decide,by decide,by decide,by decide,by decide⟩
 ·exact⟨2,by decide,by decide,rfl,9,rfl,by decide,rfl,by decide,by decide,by decide,by decide,by decide⟩
 ·exact⟨2,by decide,by decide,rfl,10,rfl,by decide,rfl,by decide,by decide,by decide,by decide,by decide⟩
 ·exact⟨3,by decide,by decide,rfl,11,rfl,by decide,rfl,by decide,by decide,by decide,by decide,by decide⟩
 ·exact⟨3,by decide,by decide,rfl,12,rfl,by decide,rfl,by decide,by decide,by decide,by decide,by decide⟩
 ·exact⟨3,by decide,by decide,rfl,13,rfl,by decide,rfl,by decide,by decide,by decide,by decide,by decide⟩
theorem zZ (h1:8≤T.k) (h2:T.len=2):T.exI=(T.kid 0).atl (bB T.k)++bl::sg (lG T.k)::bl::(T.kid 1).atl (bB T.k+1):=by
 rw[T.exI_eq];unfold exN;rw[ac (by omega),ac (by omega),ac (by omega),ac (by omega),ac (by omega),ac (by omega),ac (by omega),qr (by omega),qr (by omega)]
theorem M8 (h1:8≤T.k) (h13:T.k≤13) (h2:T.len=2) (hK:OwnX E (T.kid 0)) (tO:OwnX E (T.kid 1)):OwnX E T:=by
 have hI:=zZ h1 h2;obtain⟨L,l1,l3,hl,K,eK,hb,hv,vq,n60,n40,n58,hsn⟩:=E7 h1 h13;have hnx:bW T.k=false:=dh (by omega)
 have hB:T.bex=kl (K:Int) [(T.kid 0).bex,(T.kid 1).bex]:=by
  rw[T.bex_eq,Ng h2,ac (by omega),ac (by omega),ac (by rw[hnx];decide),eK];rfl
 have jL:=ry (T:=T) (i:=0) (by omega)
 have hd1:=ry (T:=T) (i:=1) (by omega)
 refine⟨fun i r=> ?_,fun e=>by rw[hl] at e;omega,fun e=>by rw[hl] at e;omega,fun e=>by rw[hl] at e;omega,fun lv q1 q3 e d hd i r hc=> ?_⟩
 ·rw[hI,mt,gg]
  exact hK.atlHd _ i _
 ·obtain rfl:lv=L:=by omega
  rw[hI,hB,mt,my,gD,my,gg];generalize i+(ar ((T.kid 0).atl (bB T.k))).length+1=j;have qM:∀m,gF m ⟨5,ah (lG T.k),j⟩=if m=lv then K else 0:=fun m=>by
   unfold gF;show (if (5:Nat)=5∧pF (gT (ah (lG T.k)))=m then gT (ah (lG T.k)) else 0)=_;rw[hb,hv]
   by_cases q:m=lv
   ·rw[af ⟨rfl,q.symm⟩,af q]
   ·rw[ac fun z=>q z.2.symm,ac q]
  show m6 E (bV E d) lv (bs i ((T.kid 0).atl (bB T.k))++(⟨5,ah (lG T.k),j⟩::(bs (j+1+1) ((T.kid 1).atl (bB T.k+1))++r)))=_;have hC:∀l:List Tk,Cnd E (lv+1) ((⟨5,ah (lG T.k),j⟩:Tk)::l):=fun l=>⟨(fS _ 60 j).trans (dh n60),(fS _ 40 j).trans (dh n40),fun m m1 _=>(qM m).trans (ac (by omega))⟩
  rw[hK.atlChain (d:=d) hl q1 q3 (by omega) i _ (hC _)]
  have bo:gF lv (ak E 0 (⟨5,ah (lG T.k),j⟩::(bs (j+1+1) ((T.kid 1).atl (bB T.k+1))++r)))=K:=(qM lv).trans (af rfl);rw[K9 (by rw[bo];exact vq),bo]
  show aR (m6 E (bV E d) (lv+1) (bs (j+1+1) ((T.kid 1).atl (bB T.k+1))++r)) _=_;rw[tO.atl (d:=d) (lw:=bB T.k+1) (lv:=lv+1) (by rw[hl];rfl) (by omega) (by omega) (by omega) (j+1+1) r hc,aT]
end
theorem yg {E:Nat}:∀T:PT,T.badX=0→T.ns→OwnX E T:=PT.ind fun T ih hb hn=>by
 obtain⟨he,qM⟩:=iV hb;have hK:∀i,i < T.len→OwnX E (T.kid i):=fun i hi=>ih i hi (qM i hi) (ns_kid hn hi)
 obtain⟨⟨k1,tG⟩, -,hN,dq,hl,hm⟩:=oz he;have hs:=Nb hn;have hc:T.k=1∨T.k=2∨T.k=3∨T.k=4∨T.k=5∨T.k=6∨T.k=7∨8≤T.k:=by omega
 rcases hc with h | h | h | h | h | h | h | h
 ·rw[h] at hm;exact own_1 h (by have:bF 1=0:=rfl;omega)
 ·rw[h] at hm;exact own_2 h (by have:bF 2=0:=rfl;omega) (hN h) hs
 ·rw[h] at hm dq;exact own_3 h (by have:bF 3=0:=rfl;omega) (dq rfl)
 ·rw[h] at hm dq hl
  have h1:T.len=1:=by have:bF 4=1:=rfl;have:bG 4=1:=rfl;omega
  exact own_4 h h1 (dq rfl) (hK 0 (by omega))
 ·rw[h] at hm hl
  have h1:T.len=1:=by have:bF 5=1:=rfl;have:bG 5=1:=rfl;omega
  exact own_5 h h1 (hK 0 (by omega))
 ·rw[h] at hm dq;exact own_6 h (by have:bF 6=8:=rfl;omega) (dq rfl) hK
 ·rw[h] at hm hl
  have h1:T.len=1:=by have:bF 7=1:=rfl;have:bG 7=1:=rfl;omega
  exact own_7 h h1 (hK 0 (by omega))
 ·have h2:bF T.k=2∧bG T.k=2:=by
   have:T.k=8∨T.k=9∨T.k=10∨T.k=11∨T.k=12∨T.k=13:=by omega
   rcases this with h | h | h | h | h | h <;> rw[h] <;> exact⟨rfl,rfl⟩
  have h2':T.len=2:=by omega
  exact M8 h tG h2' (hK 0 (by omega)) (hK 1 (by omega))
open Go.RowKit
def lV (t:ByteArray):Bool:=t.toList.isEmpty || bp t
def SV.dfE (S:SV):Int:=if dN [cV [S.nm,S.en],cV S.ps.l,cV S.ls.l]=0∧(8 < S.ps.l.length∨8 < S.ls.l.length) then 5 else dN [cV [S.nm,S.en],cV S.ps.l,cV S.ls.l]
def SV.kndE (S:SV):Int:=
 if S.k=1 then 0
 else if S.k=2 then S.va.wrongX
 else if S.k=4 then dN [S.va.wrongX,S.pa.wrong]
 else if S.k=3 then dN [jo S.tg,S.va.wrongX]
 else if S.k=5 then dN [jo S.tg,S.pa.wrong,S.va.wrongX]
 else if S.k=6 then dN [cV [S.nm],S.pa.wrong]
 else if S.k=7 then S.dfE
 else 1
def SV.lbl (S:SV):List ByteArray:=[S.lab,S.al,S.ye,S.no]
def SV.wrong (S:SV):Int:=
 if S.lbl.all lV=true then (if S.al.toList.isEmpty=false∧(S.ye.toList.isEmpty=false∨S.no.toList.isEmpty=false) then 8 else S.kndE) else 7
theorem JI:(prog.info? 30).map (·.size)=some 24:=by kernel_rfl
theorem Lz {l:List ByteArray} {k:Nat} (h:(l.take k).all lV=true) {t:ByteArray} (ht:l[k]? =some t) (hn:lV t=true):(l.take (k+1)).all lV=true:=by
 rw[List.take_add_one,ht];simp only[Option.toList_some,List.all_append,h,List.all_cons,hn,List.all_nil,Bool.and_self]
theorem M9 {l:List ByteArray} {k:Nat} {t:ByteArray} (ht:l[k]? =some t) (hn:lV t=false):l.all lV=false:=by
 rw[←Bool.not_eq_true,rQ];intro h;rw[h t (rO ht)] at hn
 cases hn
theorem G5 {W:World} {g:Nat} {cs:Array Value} {l:List ByteArray} (hg:W.heap[g]? =some (.cells cs 9 (0,0))) (kw:cs=(l.map fun t=>Value.string t).toArray) (hl:∀t ∈ l,t.size≤maxLen) (hn:l.length≤100):NL.In W ⟨some ⟨g,0,none⟩,g,0,l.length,l⟩:=
 ⟨ax _,by show l.length≤maxLen;unfold maxLen;omega,fun _=>rfl,fun i t ht=>⟨by
  rw[oI,eX _ _ _ _ _ _ hg,kw];have ht:l[i]? =some t:=ht;simp[ht],hl t (rO ht)⟩⟩
theorem yk {w:World} {g:Nat} {t:TypeId} {l:List Int} (h:w.heap[g]? =some (.cells (l.map fun n=>Value.int .i64 n).toArray t (0,0))):∀i x,l[i]? =some x→w.cell? ⟨g,i,none⟩=some (.int .i64 x):=fun i x hx=>by
 rw[eX _ _ _ _ _ _ h];simp[hx]
theorem Hh (S:SV) (w:World) (hS:S.In w):
  Calls prog 36 #[S.v] w fun e w'=>e=.returned (.int .i64 S.dfE)∧Below w.heap.size w w':=by
 have HI:=ab hS;clear hS;unfold SV.v SV.cells NL.v;obtain⟨w1,aL⟩:∃w1,w1=w.alloc (.cells #[.string S.lab,.int .i64 S.k,.int .i64 S.tg.k,.string S.tg.t,.int .i64 S.tg.n,.string S.tg.nm,.slice S.tg.xa S.tg.len S.tg.cap,.int .i64 S.va.k,.string S.va.t,.int .i64 S.va.n,.string S.va.nm,.slice S.va.xa S.va.len S.va.cap,.int .i64 S.pa.k,.string S.pa.t,.int .i64 S.pa.n,.string S.pa.nm,.slice S.pa.xa S.pa.len S.pa.cap,.string S.nm,.string S.en,.slice S.ps.xa S.ps.l.length S.ps.cap,.slice S.ls.xa S.ls.l.length S.ls.cap,.string S.al,.string S.ye,.string S.no] 30):=⟨_,rfl⟩;have hb1:Below w.heap.size w w1:=by rw[aL];exact ba _
 have vl:w1.heap[w.heap.size]? =some (.cells #[.string S.lab,.int .i64 S.k,.int .i64 S.tg.k,.string S.tg.t,.int .i64 S.tg.n,.string S.tg.nm,.slice S.tg.xa S.tg.len S.tg.cap,.int .i64 S.va.k,.string S.va.t,.int .i64 S.va.n,.string S.va.nm,.slice S.va.xa S.va.len S.va.cap,.int .i64 S.pa.k,.string S.pa.t,.int .i64 S.pa.n,.string S.pa.nm,.slice S.pa.xa S.pa.len S.pa.cap,.string S.nm,.string S.en,.slice S.ps.xa S.ps.l.length S.ps.cap,.slice S.ls.xa S.ls.l.length S.ls.cap,.string S.al,.string S.ye,.string S.no] 30 (0,0)):=by rw[aL];exact aw rfl
 have tr:w1.heap.size=w.heap.size+1:=by rw[aL,eu]
 have bf:=ab hb1;have HWN:Hid (Calls prog 35 #[.slice (some ⟨w1.heap.size,0,none⟩) 2 2] (w1.alloc (.cells #[.string S.nm,.string S.en] 9)).drew fun e w'=>e=.returned (.int .i64 (cV [S.nm,S.en]))∧Below w1.heap.size w1 w'):=ab ((za ⟨some ⟨w1.heap.size,0,none⟩,w1.heap.size,0,2,[S.nm,S.en]⟩ _ (G5 (l:=[S.nm,S.en]) (show (w1.alloc (.cells #[.string S.nm,.string S.en] 9)).drew.heap[w1.heap.size]? =some (.cells #[.string S.nm,.string S.en] 9 (0,0)) from aw rfl) rfl (fun t ht=>by
   simp only[dU,ek,fL] at ht;rcases ht with rfl | rfl
   ·exact(aa HI).txt.2.1
   ·exact(aa HI).txt.2.2.1) (by simp))).mono fun e w' q=>⟨q.1,q.2▸(ba _).drew⟩)
 have rd:=ab (fun W (h:Below w1.heap.size w1 W)=>(show Calls prog 35 #[.slice S.ps.xa S.ps.l.length S.ps.cap] W fun e w'=>e=.returned (.int .i64 (cV S.ps.l))∧w'=W from za S.ps W (((aa HI).ps.later (aa bf)).later h)))
 have HLS:=ab (fun W (h:Below w1.heap.size w1 W)=>(show Calls prog 35 #[.slice S.ls.xa S.ls.l.length S.ls.cap] W fun e w'=>e=.returned (.int .i64 (cV S.ls.l))∧w'=W from za S.ls W (((aa HI).ls.later (aa bf)).later h)))
 have c17:w1.cell? ⟨w.heap.size,17,none⟩=some (.string S.nm):=cr vl;have c18:w1.cell? ⟨w.heap.size,18,none⟩=some (.string S.en):=cr vl;have c19:w1.cell? ⟨w.heap.size,19,none⟩=some (.slice S.ps.xa S.ps.l.length S.ps.cap):=cr vl;have c20:w1.cell? ⟨w.heap.size,20,none⟩=some (.slice S.ls.xa S.ls.l.length S.ls.cap):=cr vl;have lr:=ab tr;have bi:=ab aL;have hpm:=(aa HI).ps.max;have hpc:=(aa HI).ps.cap;have hlm:=(aa HI).ls.max;have hlc:=(aa HI).ls.cap;unfold maxLen at hpm hlm;have pj:Hid (S.dfE=if dN [cV [S.nm,S.en],cV S.ps.l,cV S.ls.l]=0∧(8 < S.ps.l.length∨8 < S.ls.l.length) then 5 else dN [cV [S.nm,S.en],cV S.ps.l,cV S.ls.l]):=ab (rfl);have vF:Hid (w.alloc (.cells #[.string S.lab,.int .i64 S.k,.int .i64 S.tg.k,.string S.tg.t,.int .i64 S.tg.n,.string S.tg.nm,.slice S.tg.xa S.tg.len S.tg.cap,.int .i64 S.va.k,.string S.va.t,.int .i64 S.va.n,.string S.va.nm,.slice S.va.xa S.va.len S.va.cap,.int .i64 S.pa.k,.string S.pa.t,.int .i64 S.pa.n,.string S.pa.nm,.slice S.pa.xa S.pa.len S.pa.cap,.string S.nm,.string S.en,.slice S.ps.xa S.ps.l.length S.ps.cap,.slice S.ls.xa S.ls.l.length S.ls.cap,.string S.al,.string S.ye,.string S.no] 30)=w1):=ab (aL.symm);generalize S.ps.l.length=np at *;generalize S.ls.l.length=nl at *;clear aL hb1 vl tr;generalize cV [S.nm,S.en]=n1 at *;generalize cV S.ps.l=n2 at *;generalize cV S.ls.l=n3 at *;have nE:Hid (∀w':World,Below w1.heap.size w1 w'→(w'.cell? ⟨w.heap.size,17,none⟩=some (.string S.nm)∧w'.cell? ⟨w.heap.size,18,none⟩=some (.string S.en)∧w'.cell? ⟨w.heap.size,19,none⟩=some (.slice S.ps.xa np S.ps.cap)∧w'.cell? ⟨w.heap.size,20,none⟩=some (.slice S.ls.xa nl S.ls.cap))):=ab (fun w' h=>⟨av h c17,av h c18,av h c19,av h c20⟩)
 have hA:Below w1.heap.size w1 w1.drew:=(aW _ _).drew;go_enter func36,ntmps36;go_wp2_with fail;rw[show w.alloc (.cells #[.string S.lab,.int .i64 S.k,.int .i64 S.tg.k,.string S.tg.t,.int .i64 S.tg.n,.string S.tg.nm,.slice S.tg.xa S.tg.len S.tg.cap,.int .i64 S.va.k,.string S.va.t,.int .i64 S.va.n,.string S.va.nm,.slice S.va.xa S.va.len S.va.cap,.int .i64 S.pa.k,.string S.pa.t,.int .i64 S.pa.n,.string S.pa.nm,.slice S.pa.xa S.pa.len S.pa.cap,.string S.nm,.string S.en,.slice S.ps.xa np S.ps.cap,.slice S.ls.xa nl S.ls.cap,.string S.al,.string S.ye,.string S.no] 30)=w1 from aa vF];go_region_held3 (fun w'=>w'.cell? ⟨w.heap.size,17,none⟩=some (.string S.nm)∧w'.cell? ⟨w.heap.size,18,none⟩=some (.string S.en)∧w'.cell? ⟨w.heap.size,19,none⟩=some (.slice S.ps.xa np S.ps.cap)∧w'.cell? ⟨w.heap.size,20,none⟩=some (.slice S.ls.xa nl S.ls.cap))
  (first | exact aa nE _ hA | exact aa nE _ (hA.alloc (by have:=hA.size;omega) _))
  (first
   | (go_at_call 35;(with_reducible refine(aa HWN).mono ?_);rintro e w7 ⟨rfl,hb7⟩;have hA:=hb7;clear hb7)
   | (go_at_call 35;(with_reducible refine(aa rd _ hA).mono ?_);rintro e w7 ⟨rfl,rfl⟩)
   | (go_at_call 35;(with_reducible refine(aa HLS _ hA).mono ?_);rintro e w7 ⟨rfl,rfl⟩)
   | (go_at_call 32;refine(xU [n1,n2,n3] _ _ (by simp) (yk (aw rfl))).mono ?_;rintro e w7 ⟨rfl,rfl⟩;have hA:=hA.alloc (by have:=hA.size;omega) (.cells #[.int .i64 n1,.int .i64 n2,.int .i64 n3] 32)))
 obtain⟨-, -,d19,d20⟩:=aa nE _ hA;have qg:=ab (ap (aa bf) hA);clear c17 c18 c19 c20 hA;generalize dN [n1,n2,n3]=er at *
 by_cases h0:er=0
 ·have q:(er==0)=true:=bt h0
  by_cases h1:8 < np
  ·have HE:Hid (S.dfE=5):=ab (by rw[aa pj,af ⟨h0,.inl h1⟩])
   have g1:(8:Int) < (np:Int):=by omega
   clear h0 h1 pj;go_wp2_with fail;go_ret;exact⟨by rw[aa HE];rfl,aa qg⟩
  ·by_cases h2:8 < nl
   ·have HE:Hid (S.dfE=5):=ab (by rw[aa pj,af ⟨h0,.inr h2⟩])
    have g1:¬(8:Int) < (np:Int):=by omega
    have g2:(8:Int) < (nl:Int):=by omega
    clear h0 h1 h2 pj;go_wp2_with fail;go_ret;exact⟨by rw[aa HE];rfl,aa qg⟩
   ·have HE:Hid (S.dfE=er):=ab (by rw[aa pj,ac (fun h=>by rcases h.2 with h | h;exact h1 h;exact h2 h)])
    have g1:¬(8:Int) < (np:Int):=by omega
    have g2:¬(8:Int) < (nl:Int):=by omega
    clear h0 h1 h2 pj;go_wp2_with fail;go_ret;exact⟨by rw[aa HE];rfl,aa qg⟩
 ·have q:(er==0)=false:=bn h0
  have HE:Hid (S.dfE=er):=ab (by rw[aa pj,ac (fun h=>h0 h.1)])
  clear h0 pj;go_wp2_with fail;go_ret;exact⟨by rw[aa HE];rfl,aa qg⟩
theorem Bm (S:SV) (w:World) (hS:S.In w) (hX:gP w) (hP:dI w):
  Calls prog 11 #[S.v] w fun e w'=>e=.returned (.int .i64 S.wrong)∧Below w.heap.size w w':=by
 have HI:=ab hS;have li:=hS.txt;have tV:=ab (And.intro hX hP);clear hS hX hP;have ft:Hid (S.k=1∨S.k=2∨S.k=4∨S.k=3∨S.k=5∨S.k=6∨S.k=7∨(S.k < 1∨7 < S.k)):=ab (by omega)
 unfold SV.v SV.cells NL.v;go_enter func11,ntmps11;go_wp2_with fail;obtain⟨w1,aL⟩:∃w1,w1=(w.alloc (.cells #[.string S.lab,.int .i64 S.k,.int .i64 S.tg.k,.string S.tg.t,.int .i64 S.tg.n,.string S.tg.nm,.slice S.tg.xa S.tg.len S.tg.cap,.int .i64 S.va.k,.string S.va.t,.int .i64 S.va.n,.string S.va.nm,.slice S.va.xa S.va.len S.va.cap,.int .i64 S.pa.k,.string S.pa.t,.int .i64 S.pa.n,.string S.pa.nm,.slice S.pa.xa S.pa.len S.pa.cap,.string S.nm,.string S.en,.slice S.ps.xa S.ps.l.length S.ps.cap,.slice S.ls.xa S.ls.l.length S.ls.cap,.string S.al,.string S.ye,.string S.no] 30)).alloc (.cells #[.string S.lab,.string S.al,.string S.ye,.string S.no] 9):=⟨_,rfl⟩;rw[←aL];have hb1:Below w.heap.size w w1:=by rw[aL];exact(ba _).alloc (by rw[eu];omega) _
 have tr:w1.heap.size=w.heap.size+1+1:=by rw[aL,eu,eu]
 have vl:w1.heap[w.heap.size]? =some (.cells #[.string S.lab,.int .i64 S.k,.int .i64 S.tg.k,.string S.tg.t,.int .i64 S.tg.n,.string S.tg.nm,.slice S.tg.xa S.tg.len S.tg.cap,.int .i64 S.va.k,.string S.va.t,.int .i64 S.va.n,.string S.va.nm,.slice S.va.xa S.va.len S.va.cap,.int .i64 S.pa.k,.string S.pa.t,.int .i64 S.pa.n,.string S.pa.nm,.slice S.pa.xa S.pa.len S.pa.cap,.string S.nm,.string S.en,.slice S.ps.xa S.ps.l.length S.ps.cap,.slice S.ls.xa S.ls.l.length S.ls.cap,.string S.al,.string S.ye,.string S.no] 30 (0,0)):=by rw[aL];exact bL (by rw[eu];omega) (aw rfl)
 have kO:w1.heap[w.heap.size+1]? =some (.cells #[.string S.lab,.string S.al,.string S.ye,.string S.no] 9 (0,0)):=by rw[aL];exact aw (by rw[eu])
 have bf:=ab hb1;have d6:=ab vl;have HC:Hid (∀i t,S.lbl[i]? =some t→w1.cell? ⟨w.heap.size+1,i,none⟩=some (.string t)∧t.size≤maxLen):=ab (fun i t ht=>by
  rw[eX _ _ _ _ _ _ kO]
  match i,ht with
  | 0,ht=>
        obtain rfl:S.lab=t:=by simpa [SV.lbl] using ht
        exact⟨rfl,li.1⟩
  | 1,ht=>
        obtain rfl:S.al=t:=by simpa [SV.lbl] using ht
        exact⟨rfl,li.2.2.2.1⟩
  | 2,ht=>
        obtain rfl:S.ye=t:=by simpa [SV.lbl] using ht
        exact⟨rfl,li.2.2.2.2.1⟩
  | 3,ht=>
        obtain rfl:S.no=t:=by simpa [SV.lbl] using ht
        exact⟨rfl,li.2.2.2.2.2⟩
  | i+4,ht=>simp[SV.lbl] at ht)
 have HW:Hid (S.wrong=if S.lbl.all lV=true then (if S.al.toList.isEmpty=false∧(S.ye.toList.isEmpty=false∨S.no.toList.isEmpty=false) then 8 else S.kndE) else 7):=ab (rfl);have HLL:Hid (S.lbl.length=4):=ab (rfl);have HSZ1:=ab tr;clear aL hb1 vl kO li tr;generalize S.lbl=LL at *;go_loop [15] (fun i=>∃k:Nat,k≤4∧i=.int .i64 (k:Int)∧Hid ((LL.take k).all lV=true)) (fun i=>4 - (intOf i).toNat)
 case atStart=>exact⟨0,by omega,rfl,rfl⟩
 case round=>
  obtain⟨k,hk,rfl,HT⟩:=hrel;rcases cX k 4 with au | jc
  ·obtain⟨t,ht⟩:∃t,LL[k]? =some t:=⟨LL[k]'(by have:=aa HLL;omega),jH _⟩
   obtain⟨ct,pV⟩:=aa HC k t ht;have ml:=ab (qj t w1 pV);have bP:=ab (fun h=>Lz (aa HT) ht h)
   have ao:=ab (fun h=>M9 ht h)
   clear ht pV;have hg:(k:Int) < 4:=by omega
   have ma:=xd (g:=w.heap.size+1) (o:=0) (cap:=4) (i:=k) (n:=4) underlying28 xR au;rw[oI] at ma
   cases hemp:t.toList.isEmpty
   ·cases hq:bp t
    ·have HE:Hid (S.wrong=7):=ab (by rw[aa HW,aa ao (by unfold lV;rw[hemp,hq];rfl),ac (by decide)])
     rw[hq] at ml;clear hq bP ao;go_wp2_with fail;refine(aa ml).mono ?_;rintro e w1 ⟨rfl,rfl⟩;go_wp2_with fail;go_ret;exact⟨by rw[aa HE];rfl,aa bf⟩
    ·have HA:=ab (aa bP (by unfold lV;rw[hq,Bool.or_true]))
     rw[hq] at ml;clear hq bP ao;go_wp2_with fail;refine(aa ml).mono ?_;rintro e w1 ⟨rfl,rfl⟩;go_wp2_with fail;exact⟨⟨k+1,by omega,rfl,aa HA⟩,by simp[intOf];omega⟩
   ·have HA:=ab (aa bP (by unfold lV;rw[hemp,Bool.true_or]))
    clear bP ao;go_wp2_with fail;exact⟨⟨k+1,by omega,rfl,aa HA⟩,by simp[intOf];omega⟩
  ·obtain rfl:k=4:=by omega
   have gL:Hid (S.wrong=if S.al.toList.isEmpty=false∧(S.ye.toList.isEmpty=false∨S.no.toList.isEmpty=false) then 8 else S.kndE):=ab (by
    have h:=aa HT;rw[←aa HLL,List.take_length] at h;rw[aa HW,af h])
   clear HW HT HC HLL hk jc;have c0:w1.cell? ⟨w.heap.size,0,none⟩=some (.string S.lab):=cr (aa d6);have c1:w1.cell? ⟨w.heap.size,1,none⟩=some (.int .i64 S.k):=cr (aa d6);have c2:w1.cell? ⟨w.heap.size,2,none⟩=some (.int .i64 S.tg.k):=cr (aa d6);have c3:w1.cell? ⟨w.heap.size,3,none⟩=some (.string S.tg.t):=cr (aa d6);have c4:w1.cell? ⟨w.heap.size,4,none⟩=some (.int .i64 S.tg.n):=cr (aa d6);have c5:w1.cell? ⟨w.heap.size,5,none⟩=some (.string S.tg.nm):=cr (aa d6);have c6:w1.cell? ⟨w.heap.size,6,none⟩=some (.slice S.tg.xa S.tg.len S.tg.cap):=cr (aa d6);have c7:w1.cell? ⟨w.heap.size,7,none⟩=some (.int .i64 S.va.k):=cr (aa d6);have c8:w1.cell? ⟨w.heap.size,8,none⟩=some (.string S.va.t):=cr (aa d6);have c9:w1.cell? ⟨w.heap.size,9,none⟩=some (.int .i64 S.va.n):=cr (aa d6);have sn:w1.cell? ⟨w.heap.size,10,none⟩=some (.string S.va.nm):=cr (aa d6);have sj:w1.cell? ⟨w.heap.size,11,none⟩=some (.slice S.va.xa S.va.len S.va.cap):=cr (aa d6);have vB:w1.cell? ⟨w.heap.size,12,none⟩=some (.int .i64 S.pa.k):=cr (aa d6);have vA:w1.cell? ⟨w.heap.size,13,none⟩=some (.string S.pa.t):=cr (aa d6);have vz:w1.cell? ⟨w.heap.size,14,none⟩=some (.int .i64 S.pa.n):=cr (aa d6);have vy:w1.cell? ⟨w.heap.size,15,none⟩=some (.string S.pa.nm):=cr (aa d6);have vx:w1.cell? ⟨w.heap.size,16,none⟩=some (.slice S.pa.xa S.pa.len S.pa.cap):=cr (aa d6);have c17:w1.cell? ⟨w.heap.size,17,none⟩=some (.string S.nm):=cr (aa d6);have c18:w1.cell? ⟨w.heap.size,18,none⟩=some (.string S.en):=cr (aa d6);have c19:w1.cell? ⟨w.heap.size,19,none⟩=some (.slice S.ps.xa S.ps.l.length S.ps.cap):=cr (aa d6);have c20:w1.cell? ⟨w.heap.size,20,none⟩=some (.slice S.ls.xa S.ls.l.length S.ls.cap):=cr (aa d6);have vw:w1.cell? ⟨w.heap.size,21,none⟩=some (.string S.al):=cr (aa d6);have nA:w1.cell? ⟨w.heap.size,22,none⟩=some (.string S.ye):=cr (aa d6);have c23:w1.cell? ⟨w.heap.size,23,none⟩=some (.string S.no):=cr (aa d6);obtain⟨bb,tK⟩:∃bb:Bool,bb=(!S.al.toList.isEmpty && (!S.ye.toList.isEmpty || !S.no.toList.isEmpty)):=⟨_,rfl⟩;have HE0:Hid (S.wrong=if bb=true then 8 else S.kndE):=ab (by rw[aa gL,tK];cases S.al.toList.isEmpty <;> cases S.ye.toList.isEmpty <;> cases S.no.toList.isEmpty <;> simp)
   have HBB:=ab tK;clear tK gL;go_upto_region 7 with fail
   go_cut [39] from 27 (fun s39 wx=>s39=.bool bb∧w1=wx)
   case first=>
    have tK:=aa HBB;clear HBB HE0 ft
    cases ha:S.al.toList.isEmpty <;> cases hy:S.ye.toList.isEmpty <;> cases hn:S.no.toList.isEmpty <;> (rw[ha,hy,hn] at tK;go_wp2_with fail;go_meet;case rel=>exact⟨by rw[tK];rfl,rfl⟩)
   case rest=>
    obtain⟨rfl,rfl⟩:=hcut;clear HBB
    cases bb
    ·have HE:Hid (S.wrong=S.kndE):=ab (by rw[aa HE0,ac (by decide)])
     clear HE0;rcases aa ft with HK | HK | HK | HK | HK | HK | HK | HK
     ·replace HK:=ab HK
      clear ft
      as_aux_lemma=>
       have hk:=aa HK;have HE:Hid (S.wrong=0):=ab (by rw[aa HE,SV.kndE,af hk])
       have e1:(S.k==1)=true:=bt hk;clear hk;go_wp2_with fail;go_ret;exact⟨by rw[aa HE];rfl,aa bf⟩
     ·replace HK:=ab HK
      clear ft
      as_aux_lemma=>
       have hk:=aa HK;have HX:=ab (fun W (h:Below w1.heap.size w1 W)=>ya S.va W (PT.In.later h (PT.In.later (aa bf) (aa HI).va)) (((aa tV).1.later (aa bf)).later h))
       unfold pv at HX;have HE:Hid (S.wrong=S.va.wrongX):=ab (by rw[aa HE,SV.kndE,ac (by omega),af hk])
       have e1:(S.k==1)=false:=bn;have e2:(S.k==2)=true:=bt hk;clear hk;generalize S.va.wrongX=ex at *;have hA:Below w1.heap.size w1 w1:=aW _ _;go_wp2_with fail;refine(aa HX w1 hA).mono ?_;rintro e w7 ⟨rfl,hb7⟩;have hA:=ap hA hb7;clear hb7;go_wp2_with fail;go_ret;exact⟨by rw[aa HE];rfl,ap (aa bf) hA⟩
     ·replace HK:=ab HK
      clear ft
      as_aux_lemma=>
       have hk:=aa HK;have HX:=ab (fun W (h:Below w1.heap.size w1 W)=>ya S.va W (PT.In.later h (PT.In.later (aa bf) (aa HI).va)) (((aa tV).1.later (aa bf)).later h))
       have oY:=ab (fun W (h:Below w1.heap.size w1 W)=>zr S.pa W (PT.In.later h (PT.In.later (aa bf) (aa HI).pa)) (((aa tV).2.later (aa bf)).later h))
       unfold pv at HX oY;have HE:Hid (S.wrong=dN [S.va.wrongX,S.pa.wrong]):=ab (by rw[aa HE,SV.kndE,ac (by omega),ac (by omega),af hk])
       have e1:(S.k==1)=false:=bn;have e2:(S.k==2)=false:=bn;have e4:(S.k==4)=true:=bt hk;clear hk;generalize S.va.wrongX=ex at *;generalize S.pa.wrong=pw at *;have nE:Hid (∀w':World,Below w1.heap.size w1 w'→(w'.cell? ⟨w.heap.size,7,none⟩=some (.int .i64 S.va.k)∧w'.cell? ⟨w.heap.size,8,none⟩=some (.string S.va.t)∧w'.cell? ⟨w.heap.size,9,none⟩=some (.int .i64 S.va.n)∧w'.cell? ⟨w.heap.size,10,none⟩=some (.string S.va.nm)∧w'.cell? ⟨w.heap.size,11,none⟩=some (.slice S.va.xa S.va.len S.va.cap)∧w'.cell? ⟨w.heap.size,12,none⟩=some (.int .i64 S.pa.k)∧w'.cell? ⟨w.heap.size,13,none⟩=some (.string S.pa.t)∧w'.cell? ⟨w.heap.size,14,none⟩=some (.int .i64 S.pa.n)∧w'.cell? ⟨w.heap.size,15,none⟩=some (.string S.pa.nm)∧w'.cell? ⟨w.heap.size,16,none⟩=some (.slice S.pa.xa S.pa.len S.pa.cap))):=ab (fun w' h=>⟨av h c7,av h c8,av h c9,av h sn,av h sj,av h vB,av h vA,av h vz,av h vy,av h vx⟩)
       have hA:Below w1.heap.size w1 w1.drew:=(aW _ _).drew;go_wp2_with fail;go_region_held3 (fun w'=>w'.cell? ⟨w.heap.size,7,none⟩=some (.int .i64 S.va.k)∧w'.cell? ⟨w.heap.size,8,none⟩=some (.string S.va.t)∧w'.cell? ⟨w.heap.size,9,none⟩=some (.int .i64 S.va.n)∧w'.cell? ⟨w.heap.size,10,none⟩=some (.string S.va.nm)∧w'.cell? ⟨w.heap.size,11,none⟩=some (.slice S.va.xa S.va.len S.va.cap)∧w'.cell? ⟨w.heap.size,12,none⟩=some (.int .i64 S.pa.k)∧w'.cell? ⟨w.heap.size,13,none⟩=some (.string S.pa.t)∧w'.cell? ⟨w.heap.size,14,none⟩=some (.int .i64 S.pa.n)∧w'.cell? ⟨w.heap.size,15,none⟩=some (.string S.pa.nm)∧w'.cell? ⟨w.heap.size,16,none⟩=some (.slice S.pa.xa S.pa.len S.pa.cap))
        (first | exact aa nE _ hA | exact aa nE _ (hA.alloc (by have:=hA.size;omega) _))
        (first
         | (go_at_call 31;(with_reducible refine(aa HX _ hA).mono ?_);rintro e w7 ⟨rfl,hb7⟩;have hA:=ap hA hb7;clear hb7)
         | (go_at_call 33;(with_reducible refine(aa oY _ hA).mono ?_);rintro e w7 ⟨rfl,hb7⟩;have hA:=ap hA hb7;clear hb7)
         | (go_at_call 32;refine(xU [ex,pw] _ _ (by simp) (yk (aw rfl))).mono ?_;rintro e w7 ⟨rfl,rfl⟩;have hA:=hA.alloc (by have:=hA.size;omega) (.cells #[.int .i64 ex,.int .i64 pw] 32)))
       go_wp2_with fail;go_ret;exact⟨by rw[aa HE];rfl,ap (aa bf) hA⟩
     ·replace HK:=ab HK
      clear ft
      as_aux_lemma=>
       have hk:=aa HK;have HX:=ab (fun W (h:Below w1.heap.size w1 W)=>ya S.va W (PT.In.later h (PT.In.later (aa bf) (aa HI).va)) (((aa tV).1.later (aa bf)).later h))
       have HTG:=ab (fun W (h:Below w1.heap.size w1 W)=>CU S.tg W (PT.In.later h (PT.In.later (aa bf) (aa HI).tg)) (((aa tV).1.later (aa bf)).later h))
       unfold pv at HX HTG;have HE:Hid (S.wrong=dN [jo S.tg,S.va.wrongX]):=ab (by rw[aa HE,SV.kndE,ac (by omega),ac (by omega),ac (by omega),af hk])
       have e1:(S.k==1)=false:=bn;have e2:(S.k==2)=false:=bn;have e4:(S.k==4)=false:=bn;have e3:(S.k==3)=true:=bt hk;clear hk;generalize S.va.wrongX=ex at *;generalize jo S.tg=tw at *;have nE:Hid (∀w':World,Below w1.heap.size w1 w'→(w'.cell? ⟨w.heap.size,2,none⟩=some (.int .i64 S.tg.k)∧w'.cell? ⟨w.heap.size,3,none⟩=some (.string S.tg.t)∧w'.cell? ⟨w.heap.size,4,none⟩=some (.int .i64 S.tg.n)∧w'.cell? ⟨w.heap.size,5,none⟩=some (.string S.tg.nm)∧w'.cell? ⟨w.heap.size,6,none⟩=some (.slice S.tg.xa S.tg.len S.tg.cap)∧w'.cell? ⟨w.heap.size,7,none⟩=some (.int .i64 S.va.k)∧w'.cell? ⟨w.heap.size,8,none⟩=some (.string S.va.t)∧w'.cell? ⟨w.heap.size,9,none⟩=some (.int .i64 S.va.n)∧w'.cell? ⟨w.heap.size,10,none⟩=some (.string S.va.nm)∧w'.cell? ⟨w.heap.size,11,none⟩=some (.slice S.va.xa S.va.len S.va.cap))):=ab (fun w' h=>⟨av h c2,av h c3,av h c4,av h c5,av h c6,av h c7,av h c8,av h c9,av h sn,av h sj⟩)
       have hA:Below w1.heap.size w1 w1.drew:=(aW _ _).drew;go_wp2_with fail;go_region_held3 (fun w'=>w'.cell? ⟨w.heap.size,2,none⟩=some (.int .i64 S.tg.k)∧w'.cell? ⟨w.heap.size,3,none⟩=some (.string S.tg.t)∧w'.cell? ⟨w.heap.size,4,none⟩=some (.int .i64 S.tg.n)∧w'.cell? ⟨w.heap.size,5,none⟩=some (.string S.tg.nm)∧w'.cell? ⟨w.heap.size,6,none⟩=some (.slice S.tg.xa S.tg.len S.tg.cap)∧w'.cell? ⟨w.heap.size,7,none⟩=some (.int .i64 S.va.k)∧w'.cell? ⟨w.heap.size,8,none⟩=some (.string S.va.t)∧w'.cell? ⟨w.heap.size,9,none⟩=some (.int .i64 S.va.n)∧w'.cell? ⟨w.heap.size,10,none⟩=some (.string S.va.nm)∧w'.cell? ⟨w.heap.size,11,none⟩=some (.slice S.va.xa S.va.len S.va.cap))
        (first | exact aa nE _ hA | exact aa nE _ (hA.alloc (by have:=hA.size;omega) _))
        (first
         | (go_at_call 31;(with_reducible refine(aa HX _ hA).mono ?_);rintro e w7 ⟨rfl,hb7⟩;have hA:=ap hA hb7;clear hb7)
         | (go_at_call 34;(with_reducible refine(aa HTG _ hA).mono ?_);rintro e w7 ⟨rfl,hb7⟩;have hA:=ap hA hb7;clear hb7)
         | (go_at_call 32;refine(xU [tw,ex] _ _ (by simp) (yk (aw rfl))).mono ?_;rintro e w7 ⟨rfl,rfl⟩;have hA:=hA.alloc (by have:=hA.size;omega) (.cells #[.int .i64 tw,.int .i64 ex] 32)))
       go_wp2_with fail;go_ret;exact⟨by rw[aa HE];rfl,ap (aa bf) hA⟩
     ·replace HK:=ab HK
      clear ft
      as_aux_lemma=>
       have hk:=aa HK;have HX:=ab (fun W (h:Below w1.heap.size w1 W)=>ya S.va W (PT.In.later h (PT.In.later (aa bf) (aa HI).va)) (((aa tV).1.later (aa bf)).later h))
       have HTG:=ab (fun W (h:Below w1.heap.size w1 W)=>CU S.tg W (PT.In.later h (PT.In.later (aa bf) (aa HI).tg)) (((aa tV).1.later (aa bf)).later h))
       have oY:=ab (fun W (h:Below w1.heap.size w1 W)=>zr S.pa W (PT.In.later h (PT.In.later (aa bf) (aa HI).pa)) (((aa tV).2.later (aa bf)).later h))
       unfold pv at HX HTG oY;have HE:Hid (S.wrong=dN [jo S.tg,S.pa.wrong,S.va.wrongX]):=ab (by rw[aa HE,SV.kndE,ac (by omega),ac (by omega),ac (by omega),ac (by omega),af hk])
       have e1:(S.k==1)=false:=bn;have e2:(S.k==2)=false:=bn;have e4:(S.k==4)=false:=bn;have e3:(S.k==3)=false:=bn;have e5:(S.k==5)=true:=bt hk;clear hk;generalize S.va.wrongX=ex at *;generalize S.pa.wrong=pw at *;generalize jo S.tg=tw at *;have nE:Hid (∀w':World,Below w1.heap.size w1 w'→(w'.cell? ⟨w.heap.size,2,none⟩=some (.int .i64 S.tg.k)∧w'.cell? ⟨w.heap.size,3,none⟩=some (.string S.tg.t)∧w'.cell? ⟨w.heap.size,4,none⟩=some (.int .i64 S.tg.n)∧w'.cell? ⟨w.heap.size,5,none⟩=some (.string S.tg.nm)∧w'.cell? ⟨w.heap.size,6,none⟩=some (.slice S.tg.xa S.tg.len S.tg.cap)∧w'.cell? ⟨w.heap.size,7,none⟩=some (.int .i64 S.va.k)∧w'.cell? ⟨w.heap.size,8,none⟩=some (.string S.va.t)∧w'.cell? ⟨w.heap.size,9,none⟩=some (.int .i64 S.va.n)∧w'.cell? ⟨w.heap.size,10,none⟩=some (.string S.va.nm)∧w'.cell? ⟨w.heap.size,11,none⟩=some (.slice S.va.xa S.va.len S.va.cap)∧w'.cell? ⟨w.heap.size,12,none⟩=some (.int .i64 S.pa.k)∧w'.cell? ⟨w.heap.size,13,none⟩=some (.string S.pa.t)∧w'.cell? ⟨w.heap.size,14,none⟩=some (.int .i64 S.pa.n)∧w'.cell? ⟨w.heap.size,15,none⟩=some (.string S.pa.nm)∧w'.cell? ⟨w.heap.size,16,none⟩=some (.slice S.pa.xa S.pa.len S.pa.cap))):=ab (fun w' h=>⟨av h c2,av h c3,av h c4,av h c5,av h c6,av h c7,av h c8,av h c9,av h sn,av h sj,av h vB,av h vA,av h vz,av h vy,av h vx⟩)
       have hA:Below w1.heap.size w1 w1.drew:=(aW _ _).drew;go_wp2_with fail;go_region_held3 (fun w'=>w'.cell? ⟨w.heap.size,2,none⟩=some (.int .i64 S.tg.k)∧w'.cell? ⟨w.heap.size,3,none⟩=some (.string S.tg.t)∧w'.cell? ⟨w.heap.size,4,none⟩=some (.int .i64 S.tg.n)∧w'.cell? ⟨w.heap.size,5,none⟩=some (.string S.tg.nm)∧w'.cell? ⟨w.heap.size,6,none⟩=some (.slice S.tg.xa S.tg.len S.tg.cap)∧w'.cell? ⟨w.heap.size,7,none⟩=some (.int .i64 S.va.k)∧w'.cell? ⟨w.heap.size,8,none⟩=some (.string S.va.t)∧w'.cell? ⟨w.heap.size,9,none⟩=some (.int .i64 S.va.n)∧w'.cell? ⟨w.heap.size,10,none⟩=some (.string S.va.nm)∧w'.cell? ⟨w.heap.size,11,none⟩=some (.slice S.va.xa S.va.len S.va.cap)∧w'.cell? ⟨w.heap.size,12,none⟩=some (.int .i64 S.pa.k)∧w'.cell? ⟨w.heap.size,13,none⟩=some (.string S.pa.t)∧w'.cell? ⟨w.heap.size,14,none⟩=some (.int .i64 S.pa.n)∧w'.cell? ⟨w.heap.size,15,none⟩=some (.string S.pa.nm)∧w'.cell? ⟨w.heap.size,16,none⟩=some (.slice S.pa.xa S.pa.len S.pa.cap))
        (first | exact aa nE _ hA | exact aa nE _ (hA.alloc (by have:=hA.size;omega) _))
        (first
         | (go_at_call 31;(with_reducible refine(aa HX _ hA).mono ?_);rintro e w7 ⟨rfl,hb7⟩;have hA:=ap hA hb7;clear hb7)
         | (go_at_call 33;(with_reducible refine(aa oY _ hA).mono ?_);rintro e w7 ⟨rfl,hb7⟩;have hA:=ap hA hb7;clear hb7)
         | (go_at_call 34;(with_reducible refine(aa HTG _ hA).mono ?_);rintro e w7 ⟨rfl,hb7⟩;have hA:=ap hA hb7;clear hb7)
         | (go_at_call 32;refine(xU [tw,pw,ex] _ _ (by simp) (yk (aw rfl))).mono ?_;rintro e w7 ⟨rfl,rfl⟩;have hA:=hA.alloc (by have:=hA.size;omega) (.cells #[.int .i64 tw,.int .i64 pw,.int .i64 ex] 32)))
       go_wp2_with fail;go_ret;exact⟨by rw[aa HE];rfl,ap (aa bf) hA⟩
     ·replace HK:=ab HK
      clear ft
      as_aux_lemma=>
       have hk:=aa HK;have oY:=ab (fun W (h:Below w1.heap.size w1 W)=>zr S.pa W (PT.In.later h (PT.In.later (aa bf) (aa HI).pa)) (((aa tV).2.later (aa bf)).later h))
       have HWN:Hid (Calls prog 35 #[.slice (some ⟨w1.heap.size,0,none⟩) 1 1] (w1.alloc (.cells #[.string S.nm] 9)).drew fun e w'=>e=.returned (.int .i64 (cV [S.nm]))∧Below w1.heap.size w1 w'):=ab ((za ⟨some ⟨w1.heap.size,0,none⟩,w1.heap.size,0,1,[S.nm]⟩ _ (G5 (l:=[S.nm]) (show (w1.alloc (.cells #[.string S.nm] 9)).drew.heap[w1.heap.size]? =some (.cells #[.string S.nm] 9 (0,0)) from aw rfl) rfl (fun t ht=>by rw[fE] at ht;subst ht;exact(aa HI).txt.2.1) (by simp))).mono fun e w' q=>⟨q.1,q.2▸(ba _).drew⟩)
       unfold pv at oY;have HE:Hid (S.wrong=dN [cV [S.nm],S.pa.wrong]):=ab (by rw[aa HE,SV.kndE,ac (by omega),ac (by omega),ac (by omega),ac (by omega),ac (by omega),af hk])
       have e1:(S.k==1)=false:=bn;have e2:(S.k==2)=false:=bn;have e4:(S.k==4)=false:=bn;have e3:(S.k==3)=false:=bn;have e5:(S.k==5)=false:=bn;have e6:(S.k==6)=true:=bt hk;clear hk;generalize S.pa.wrong=pw at *;generalize cV [S.nm]=nw at *;have nE:Hid (∀w':World,Below w1.heap.size w1 w'→(w'.cell? ⟨w.heap.size,12,none⟩=some (.int .i64 S.pa.k)∧w'.cell? ⟨w.heap.size,13,none⟩=some (.string S.pa.t)∧w'.cell? ⟨w.heap.size,14,none⟩=some (.int .i64 S.pa.n)∧w'.cell? ⟨w.heap.size,15,none⟩=some (.string S.pa.nm)∧w'.cell? ⟨w.heap.size,16,none⟩=some (.slice S.pa.xa S.pa.len S.pa.cap)∧w'.cell? ⟨w.heap.size,17,none⟩=some (.string S.nm))):=ab (fun w' h=>⟨av h vB,av h vA,av h vz,av h vy,av h vx,av h c17⟩)
       have hA:Below w1.heap.size w1 w1.drew:=(aW _ _).drew;go_wp2_with fail;go_region_held3 (fun w'=>w'.cell? ⟨w.heap.size,12,none⟩=some (.int .i64 S.pa.k)∧w'.cell? ⟨w.heap.size,13,none⟩=some (.string S.pa.t)∧w'.cell? ⟨w.heap.size,14,none⟩=some (.int .i64 S.pa.n)∧w'.cell? ⟨w.heap.size,15,none⟩=some (.string S.pa.nm)∧w'.cell? ⟨w.heap.size,16,none⟩=some (.slice S.pa.xa S.pa.len S.pa.cap)∧w'.cell? ⟨w.heap.size,17,none⟩=some (.string S.nm))
        (first | exact aa nE _ hA | exact aa nE _ (hA.alloc (by have:=hA.size;omega) _))
        (first
         | (go_at_call 33;(with_reducible refine(aa oY _ hA).mono ?_);rintro e w7 ⟨rfl,hb7⟩;have hA:=ap hA hb7;clear hb7)
         | (go_at_call 35;(with_reducible refine(aa HWN).mono ?_);rintro e w7 ⟨rfl,hb7⟩;have hA:=hb7;clear hb7)
         | (go_at_call 32;refine(xU [nw,pw] _ _ (by simp) (yk (aw rfl))).mono ?_;rintro e w7 ⟨rfl,rfl⟩;have hA:=hA.alloc (by have:=hA.size;omega) (.cells #[.int .i64 nw,.int .i64 pw] 32)))
       go_wp2_with fail;go_ret;exact⟨by rw[aa HE];rfl,ap (aa bf) hA⟩
     ·replace HK:=ab HK
      clear ft
      as_aux_lemma=>
       have hk:=aa HK;have pj:=ab (fun W (h:Below w1.heap.size w1 W)=>Hh S W (((aa HI).later (aa bf)).later h))
       unfold SV.v SV.cells NL.v at pj;have HE:Hid (S.wrong=S.dfE):=ab (by rw[aa HE,SV.kndE,ac (by omega),ac (by omega),ac (by omega),ac (by omega),ac (by omega),ac (by omega),af hk])
       have e1:(S.k==1)=false:=bn;have e2:(S.k==2)=false:=bn;have e4:(S.k==4)=false:=bn;have e3:(S.k==3)=false:=bn;have e5:(S.k==5)=false:=bn;have e6:(S.k==6)=false:=bn;have e7:(S.k==7)=true:=bt hk;clear hk;have hA:Below w1.heap.size w1 w1:=aW _ _;go_wp2_with (first
        | (refine gG rfl 30 _ rfl w.heap.size rfl 30 _ (0,0) _ (aa d6) underlying30 rfl JI ?_)
        | fail)
       refine(aa pj w1 hA).mono ?_;rintro e w7 ⟨rfl,hb7⟩;have hA:=ap hA hb7;clear hb7;go_wp2_with fail;go_ret;exact⟨by rw[aa HE];rfl,ap (aa bf) hA⟩
     ·replace HK:=ab HK
      clear ft
      as_aux_lemma=>
       have hk:=aa HK;have HE:Hid (S.wrong=1):=ab (by rw[aa HE,SV.kndE,ac (by omega),ac (by omega),ac (by omega),ac (by omega),ac (by omega),ac (by omega),ac (by omega)])
       have e1:(S.k==1)=false:=bn;have e2:(S.k==2)=false:=bn;have e4:(S.k==4)=false:=bn;have e3:(S.k==3)=false:=bn;have e5:(S.k==5)=false:=bn;have e6:(S.k==6)=false:=bn;have e7:(S.k==7)=false:=bn;clear hk;go_wp2_with fail;go_ret;exact⟨by rw[aa HE];rfl,aa bf⟩
    ·have HE:Hid (S.wrong=8):=ab (by rw[aa HE0,af rfl])
     clear HE0;go_wp2_with fail;go_ret;exact⟨by rw[aa HE];rfl,aa bf⟩
end Go.Proofs.YtlmnjbipfacniaaGreatDoor
