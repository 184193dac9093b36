/- Statements that are written are read: the whole line. What s -/
import Derived.Test.YtlmnjbipfacniaaGreatDoorPlFM
import Derived.Shelf.LaysM
import Derived.Below
import Derived.Shelf.Strconv.Clone
import Derived.Test.YtlmnjbipfacniaaGreatDoorProg
import Derived.Test.YtlmnjbipfacniaaGreatDoorPatBaseM
set_option maxHeartbeats 400000
namespace Go.Proofs.YtlmnjbipfacniaaGreatDoor
open Go.RowKit
theorem EI (E:Nat) (l:List Tk):ak E 1 l=ak E 0 l.tail:=by cases l <;> rfl
theorem hdT_no {E:Nat} {l:List Tk} (h:HdT (ak E 0 l)):¬((ak E 0 l).k=0∨aM (ak E 0 l) (ah 58)=true):=by
 revert h
 generalize ak E 0 l=t;obtain⟨k,t,a⟩:=t;rintro(h | h | h | ⟨h,h2⟩) <;> (have h:k=_:=h) <;> subst h
 ·rintro(q | q)
  ·exact absurd q (by decide:(1:Nat)≠0)
  ·rw[jz (by decide)] at q;cases q
 ·rintro(q | q)
  ·exact absurd q (by decide:(2:Nat)≠0)
  ·rw[jz (by decide)] at q;cases q
 ·rintro(q | q)
  ·exact absurd q (by decide:(3:Nat)≠0)
  ·rw[jz (by decide)] at q;cases q
 ·rintro(q | q)
  ·exact absurd q (by decide:(5:Nat)≠0)
  ·rcases h2 with h2 | h2 | h2 <;> (have h2:t=_:=h2) <;> subst h2 <;> rw[fS] at q <;> exact absurd q (by decide)
theorem LS {t:Tk} {s:ByteArray} (h:fW t s=true):t.k=1:=by
 unfold fW at h;rw[tj] at h;exact mG h.1
theorem Ap {E d:Nat} {P:SV} {l:List Tk} (h:HdT (ak E 0 l)) (hs:Sec E l):et E d P l=nS E d P l:=by
 unfold et;rw[ac (hdT_no h),ac,ac]
 ·rintro⟨q1,q2⟩
  have:=(hs q1).2;rw[←EI,q2] at this
  cases this
 ·rintro⟨q1,q2⟩
  have:=(hs (LS q1)).1;rw[←EI] at this;exact this q2
theorem Gz {E:Nat} {l:List Tk} (h:aM (ak E 0 l) (ah 63)=false):uN E l=.ok (none,l):=by unfold uN;rw[ac (by rw[h];decide)]
theorem GA {E d a:Nat} {x:PT} {l:List Tk} (h:aM (ak E 0 l) (ah 61)=false):sY E d x a l=.ok (none,l):=by unfold sY;rw[ac (by rw[h];decide)]
theorem Ha (T:PT):T.bex.k=T.k:=by rw[T.bex_eq];rfl
theorem cnd_61 {E:Nat} (a:Nat) (l:List Tk):Cnd E 1 (⟨5,ah 61,a⟩::l):=we rfl (by decide) (by decide) _ _ (by omega)
theorem GF {E:Nat} (a:Nat) (l:List Tk):Cnd E 1 (⟨5,ah 63,a⟩::l):=we rfl (by decide) (by decide) _ _ (by omega)
theorem Fs {E:Nat} {T:PT} (h:T.wrong=0) (hl:T.txt.length≤65536) (a b:Nat) (r:List Tk):uN E (⟨5,ah 63,a⟩::⟨4,⟨T.txt.toArray⟩,b⟩::r)=.ok (some T.bar,r):=by
 unfold uN;show (if aM ⟨5,ah 63,a⟩ (ah 63)=true then aR (lE E (⟨4,⟨T.txt.toArray⟩,b⟩::r)) _ else _)=_;rw[fS,af (by decide),F4 h hl,aT]
theorem Ft {E a:Nat} {x T:PT} (hx:lU x.k=true) (h:T.wrongX=0) (hn:T.ns) (b i:Nat) {r:List Tk} (hr:Cnd E 1 r):sY E 400 x a (⟨5,ah 61,b⟩::(bs i T.exI++r))=.ok (some T.bex,r):=by
 unfold sY;show (if aM ⟨5,ah 61,b⟩ (ah 61)=true then (if lU x.k=true then aR (uM E 400 (bs i T.exI++r)) _ else _) else _)=_;rw[fS,af (by decide),af hx,yD h hn i r hr,aT]
theorem rz {T:PT} (h:jo T=0):T.wrongX=0∧lU T.k=true:=by
 unfold jo at h
 by_cases q:T.wrongX≠0
 ·rw[af q] at h;exact absurd h q
 ·rw[ac q] at h
  by_cases z:lU T.k=true
  ·exact⟨by omega,z⟩
  ·rw[ac z] at h;omega
theorem cI {x:Int} {l:List Int} (h:dN (x::l)=0):x=0∧dN l=0:=by
 rw[dN] at h
 by_cases q:x=0
 ·rw[af q] at h;exact⟨q,h⟩
 ·rw[ac q] at h;exact absurd h q
theorem dd_at {E i:Nat} {S:SV} (hk:S.kndE=0) (ht:S.tg.ns) (hv:S.va.ns) (hp:S.k=4∨S.k=5∨S.k=6→S.pa.txt.length≤65536) {r:List Tk} (hR:td r):
  et E 400 {bh with lab:=S.lab} (bs i (iM S)++r)=.ok ({S.bst with al:=ByteArray.empty,ye:=ByteArray.empty,no:=ByteArray.empty},r):=by
 obtain⟨lab,k,tg,va,pt,nm,en,ps,ls,al,ye,no⟩:=S;have ht:tg.ns:=ht;have hv:va.ns:=hv;have hc:=hR.cnd (E:=E);unfold SV.kndE at hk;dsimp only at hk
 by_cases h1:k=1
 ·subst h1
  show et E 400 _ r=_;unfold et;rw[af]
  ·rfl
  ·rcases hR with rfl | ⟨a,l,rfl⟩
   ·exact .inl rfl
   ·exact .inr ((fS 58 58 a).trans (eW rfl))
 ·rw[ac h1] at hk
  by_cases h2:k=2
  ·subst h2
   rw[af rfl] at hk;obtain⟨hf,hb⟩:=fG hk;show et E 400 _ (bs (i+1) va.exI++r)=_;rw[Ap ((yg va hb hv).hd (i+1) r) (zQ va hb (i+1) r hR.sec)];unfold nS;rw[yD hk hv (i+1) r hc,aT,Gz (hR.not (by decide)),aT,GA (hR.not (by decide)),aT]
   rfl
  ·rw[ac h2] at hk
   by_cases h4:k=4
   ·subst h4
    rw[af rfl] at hk;obtain⟨hx,hk⟩:=cI hk;obtain⟨iS, -⟩:=cI hk;obtain⟨hf,hb⟩:=fG hx;have hp:pt.txt.length≤65536:=hp (.inl rfl);show et E 400 _ (bs (i+1) (va.exI++(bl::sg 63::bl::[pa ⟨pt.txt.toArray⟩]))++r)=_;rw[mt,my,gD,my,GU,qs,gg];generalize i+1+(ar va.exI).length+1=j;show et E 400 _ (bs (i+1) va.exI++(⟨5,ah 63,j⟩::⟨4,⟨pt.txt.toArray⟩,j+1+1⟩::r))=_;rw[Ap ((yg va hb hv).hd (i+1) _) (zQ va hb (i+1) _ (vW 63 _ _))];unfold nS;rw[yD hx hv (i+1) _ (GF _ _),aT,Fs iS hp,aT,GA (hR.not (by decide)),aT]
    rfl
   ·rw[ac h4] at hk
    by_cases h3:k=3
    ·subst h3
     rw[af rfl] at hk;obtain⟨kM,hk⟩:=cI hk;obtain⟨hx, -⟩:=cI hk;obtain⟨li,kN⟩:=rz kM;obtain⟨hf,hb⟩:=fG li;show et E 400 _ (bs (i+1) (tg.exI++(bl::sg 61::bl::va.exI))++r)=_;rw[mt,my,gD,my,gg];generalize i+1+(ar tg.exI).length+1=j;show et E 400 _ (bs (i+1) tg.exI++(⟨5,ah 61,j⟩::(bs (j+1+1) va.exI++r)))=_;rw[Ap ((yg tg hb ht).hd (i+1) _) (zQ tg hb (i+1) _ (vW 61 _ _))];unfold nS;have e61:∀l:List Tk,aM (ak E 0 ((⟨5,ah 61,j⟩:Tk)::l)) (ah 63)=false:=fun _=>(fS 61 63 j).trans (dh (by decide))
     rw[yD li ht (i+1) _ (cnd_61 _ _),aT,Gz (e61 _),aT,Ft (by rw[Ha];exact kN) hx hv j (j+1+1) hc,aT]
     rfl
    ·rw[ac h3] at hk
     by_cases h5:k=5
     ·subst h5
      rw[af rfl] at hk;obtain⟨kM,hk⟩:=cI hk;obtain⟨iS,hk⟩:=cI hk;obtain⟨hx, -⟩:=cI hk;obtain⟨li,kN⟩:=rz kM;obtain⟨hf,hb⟩:=fG li;have hp:pt.txt.length≤65536:=hp (.inr (.inl rfl));show et E 400 _ (bs (i+1) (tg.exI++(bl::sg 63::bl::pa ⟨pt.txt.toArray⟩::bl::sg 61::bl::va.exI))++r)=_;rw[mt,my,gD,my,GU,my,gD,my,gg];generalize i+1+(ar tg.exI).length+1=j;generalize j+1+1+(91::((⟨pt.txt.toArray⟩:ByteArray).data.toList++[93])).length+1=m;show et E 400 _ (bs (i+1) tg.exI++(⟨5,ah 63,j⟩::⟨4,⟨pt.txt.toArray⟩,j+1+1⟩::⟨5,ah 61,m⟩::(bs (m+1+1) va.exI++r)))=_;rw[Ap ((yg tg hb ht).hd (i+1) _) (zQ tg hb (i+1) _ (vW 63 _ _))];unfold nS;rw[yD li ht (i+1) _ (GF _ _),aT,Fs iS hp,aT,Ft (by rw[Ha];exact kN) hx hv m (m+1+1) hc,aT]
      rfl
     ·rw[ac h5] at hk
      by_cases h6:k=6
      ·subst h6
       rw[af rfl] at hk;obtain⟨dq,hk⟩:=cI hk;obtain⟨iS, -⟩:=cI hk;have dq:=mU dq nm (by simp)
       have hp:pt.txt.length≤65536:=hp (.inr (.inr rfl));show et E 400 _ (⟨1,nm,i+1⟩::⟨5,jF,i+1+nm.data.toList.length+1⟩::⟨4,⟨pt.txt.toArray⟩,i+1+nm.data.toList.length+1+2+1⟩::r)=_;generalize i+1+nm.data.toList.length+1=j;have e5:aM ⟨5,jF,j⟩ jF=true:=by unfold aM;show (true && decide (jF=jF))=true;rw[eW rfl];rfl
       unfold et;rw[ac,ac,af ⟨rfl,e5⟩]
       ·show aR (dO E (⟨1,nm,i+1⟩::_)) _=_
        rw[uD E dq,aT];show aR (if aM ⟨5,jF,j⟩ jF=true then Except.ok ((),⟨4,⟨pt.txt.toArray⟩,j+2+1⟩::r) else _) _=_;rw[af e5,aT,F4 iS hp,aT];rfl
       ·rintro⟨-,q⟩;exact absurd q (by decide:(5:Nat)≠1)
       ·rintro(q | q)
        ·exact absurd q (by decide:(1:Nat)≠0)
        ·exact absurd ((jz (by decide)).symm.trans q) (by decide)
      ·rw[ac h6] at hk
       by_cases h7:k=7
       ·subst h7
        rw[af rfl] at hk;have hd:dN [cV [nm,en],cV ps.l,cV ls.l]=0∧¬(8 < ps.l.length∨8 < ls.l.length):=by
         unfold SV.dfE at hk;dsimp only at hk
         by_cases q:dN [cV [nm,en],cV ps.l,cV ls.l]=0∧(8 < ps.l.length∨8 < ls.l.length)
         ·rw[af q] at hk;omega
         ·rw[ac q] at hk;exact⟨hk,fun z=>q ⟨hk,z⟩⟩
        obtain⟨hd,h8⟩:=hd;obtain⟨l8,hd⟩:=cI hd;obtain⟨kq,hd⟩:=cI hd;obtain⟨hn3, -⟩:=cI hd;have dq:=mU l8 nm (by simp)
        have hen:=mU l8 en (by simp)
        show et E 400 _ (⟨1,mZ,i+1⟩::⟨1,nm,i+1+mZ.data.toList.length+1⟩::⟨5,ah 40,i+1+mZ.data.toList.length+1+nm.data.toList.length⟩::(bs (i+1+mZ.data.toList.length+1+nm.data.toList.length+1) (fD ps.l++(sg 41::(fD ls.l++(bl::[wd en]))))++r))=_;generalize i+1+mZ.data.toList.length+1+nm.data.toList.length=j;generalize i+1+mZ.data.toList.length+1=j0;unfold et;rw[ac,af ⟨(xi mZ mZ _).trans (eW rfl),rfl⟩]
        ·show aR (dfS E (⟨1,nm,j0⟩::⟨5,ah 40,j⟩::(bs (j+1) (fD ps.l++(sg 41::(fD ls.l++(bl::[wd en]))))++r))) _=_
         unfold dfS;rw[uD E dq,aT,uE,aT,dpS_at (mU kq) (by omega),aT,dlS_at (mU hn3) (by omega) hR,aT,uD E hen,aT,aT]
         rfl
        ·rintro(q | q)
         ·exact absurd q (by decide:(1:Nat)≠0)
         ·exact absurd ((jz (by decide)).symm.trans q) (by decide)
       ·rw[ac h7] at hk;omega
theorem NC {S:SV} (hk:S.kndE=0) {c:Nat} (hc:rG c):Gd c (iM S):=by
 obtain⟨lab,k,tg,va,pt,nm,en,ps,ls,al,ye,no⟩:=S;unfold SV.kndE at hk;dsimp only at hk
 by_cases h1:k=1
 ·subst h1;exact mX
 ·rw[ac h1] at hk
  by_cases h2:k=2
  ·subst h2
   rw[af rfl] at hk;exact jR (xj va (fG hk).2 c hc)
  ·rw[ac h2] at hk
   by_cases h4:k=4
   ·subst h4
    rw[af rfl] at hk;obtain⟨hx,hk⟩:=cI hk;obtain⟨iS, -⟩:=cI hk;exact jR (mw (jR (kV (by decide) (by decide) (jR (CH (vO iS).2 mX)))) (xj va (fG hx).2 _ zP))
   ·rw[ac h4] at hk
    by_cases h3:k=3
    ·subst h3
     rw[af rfl] at hk;obtain⟨kM,hk⟩:=cI hk;obtain⟨hx, -⟩:=cI hk;exact jR (mw (jR (kV (by decide) (by decide) (jR (xj va (fG hx).2 c hc)))) (xj tg (fG (rz kM).1).2 _ zP))
    ·rw[ac h3] at hk
     by_cases h5:k=5
     ·subst h5
      rw[af rfl] at hk;obtain⟨kM,hk⟩:=cI hk;obtain⟨iS,hk⟩:=cI hk;obtain⟨hx, -⟩:=cI hk;exact jR (mw (jR (kV (by decide) (by decide) (jR (CH (vO iS).2 (jR (kV (by decide) (by decide) (jR (xj va (fG hx).2 c hc)))))))) (xj tg (fG (rz kM).1).2 _ zP))
     ·rw[ac h5] at hk
      by_cases h6:k=6
      ·subst h6
       rw[af rfl] at hk;obtain⟨dq,hk⟩:=cI hk;obtain⟨iS, -⟩:=cI hk;exact jR (pE (mU dq nm (by simp)) (by decide:dF 32=false) (jR (gd_df (jR (CH (vO iS).2 mX)))))
      ·rw[ac h6] at hk
       by_cases h7:k=7
       ·subst h7
        rw[af rfl] at hk;have hd:dN [cV [nm,en],cV ps.l,cV ls.l]=0:=by
         unfold SV.dfE at hk;dsimp only at hk
         by_cases q:dN [cV [nm,en],cV ps.l,cV ls.l]=0∧(8 < ps.l.length∨8 < ls.l.length)
         ·rw[af q] at hk;omega
         ·rw[ac q] at hk;exact hk
        obtain⟨l8,hd⟩:=cI hd;obtain⟨kq,hd⟩:=cI hd;obtain⟨hn3, -⟩:=cI hd;exact jR (pE (by decide) (by decide:dF 32=false) (jR (pE (mU l8 nm (by simp)) (by decide:dF 40=false) (kV (by decide) (by decide)
         (mw (kV (by decide) (by decide) (mw (b:=bl::[wd en]) (jR (pE (mU l8 en (by simp)) hc.1 mX)) (Bt (by decide:dF 32=false) ls.l (mU hn3)))) (Bt (by decide:dF 41=false) ps.l (mU kq)))))))
       ·rw[ac h7] at hk;omega
theorem FH (S:SV):iM S=[]∨∃l,iM S=bl::l:=by
 unfold iM
 repeat' split
 all_goals first | exact .inl rfl | exact .inr ⟨_,rfl⟩
theorem BP (S:SV):iz 0 (iM S++dG S)=0∨iz 0 (iM S++dG S)=32:=by
 rcases FH S with h | ⟨l,h⟩
 ·rw[h];exact BI S
 ·rw[h];exact .inr rfl
theorem st_gd {S:SV} (hw:WayOK S) (hk:S.kndE=0):Gd 0 (cj S):=by
 have hb:Gd 0 (iM S++dG S):=mw (Nr hw) (NC hk (by rcases BI S with h | h <;> rw[h] <;> exact⟨by decide,by decide⟩))
 unfold cj;split
 ·exact hb
 ·rename_i h
  exact mw hb (pE (hw.lab h) (by show dF (iz 0 (iM S++dG S))=false;rcases BP S with h | h <;> rw[h] <;> decide) mX)
theorem NG (l:List It):aj ⟨(ar l).toArray⟩ 0=iz 0 l:=by
 unfold aj iz
 cases h:ar l with
 | nil=>rfl
 | cons c r=>rfl
theorem pt_len {S:SV} (h:S.k=4∨S.k=5∨S.k=6):S.pa.txt.length≤(ar (cj S)).length:=by
 have hp:S.pa.txt.length≤(ar [sU S]).length:=by
  show _≤(91::(S.pa.txt.toArray.toList++[93])++[]).length;simp;omega
 have hs:(ar (iM S)).length≤(ar (cj S)).length:=by
  unfold cj;rw[gj,gj,bg,bg];omega
 refine bJ ?_ hs;have hc:∀(x:It) (l:List It),(ar l).length≤(ar (x::l)).length:=fun x l=>by rw[dA,bg];omega
 have ha:∀a b:List It,(ar b).length≤(ar (a++b)).length:=fun a b=>by rw[gj,bg];omega
 have hq:∀l:List It,(ar [sU S]).length≤(ar (sU S::l)).length:=fun l=>by
  rw[dA,dA,bg,bg];show _+0≤_;omega
 unfold iM;rcases h with h | h | h
 ·rw[ac (by omega),ac (by omega),af h]
  exact bJ hp (bJ (bJ (bJ (bJ (hc bl _) (hc (sg 63) _)) (hc bl _)) (ha S.va.exI _)) (hc bl _))
 ·rw[ac (by omega),ac (by omega),ac (by omega),af h]
  exact bJ hp (bJ (bJ (bJ (bJ (bJ (hq _) (hc bl _)) (hc (sg 63) _)) (hc bl _)) (ha S.tg.exI _)) (hc bl _))
 ·rw[ac (by omega),ac (by omega),ac (by omega),ac (by omega),af h]
  exact bJ hp (bJ (bJ (bJ (bJ (hc bl _) (hc df _)) (hc bl _)) (hc (wd S.nm) _)) (hc bl _))
theorem NF:∀T:PT,T.bex.cnt=T.cnt:=sG fun T ih=>by
 rw[T.bex_eq,Fe,yn T,uv,uv,uY];exact aJ (fun l=>1+List.sum l) (uS fun x hx=>ih x hx)
theorem NE:∀T:PT,T.bex.dep=T.dep:=sG fun T ih=>by
 rw[T.bex_eq,Fd,xc T,zL ih]
theorem wT (T:PT):T.bex.fits=T.fits:=by unfold PT.fits;rw[NF,NE]
theorem LN {S:SV} (hk:S.kndE=0):S.bst.tg.fits=true∧S.bst.va.fits=true:=by
 obtain⟨lab,k,tg,va,pt,nm,en,ps,ls,al,ye,no⟩:=S;have h0:PT.nul.fits=true:=by decide
 unfold SV.kndE at hk;dsimp only at hk;unfold SV.bst;dsimp only
 by_cases h2:k=2
 ·subst h2
  rw[ac (by decide),af rfl] at hk
  rw[ac (by decide),af (by decide),wT]
  exact⟨h0,(fG hk).1⟩
 ·by_cases h4:k=4
  ·subst h4
   rw[ac (by decide),ac (by decide),af rfl] at hk
   rw[ac (by decide),af (by decide),wT]
   exact⟨h0,(fG (cI hk).1).1⟩
  ·by_cases h3:k=3
   ·subst h3
    rw[ac (by decide),ac (by decide),ac (by decide),af rfl] at hk
    rw[af (by decide),af (by decide),wT,wT]
    exact⟨(fG (rz (cI hk).1).1).1,(fG (cI (cI hk).2).1).1⟩
   ·by_cases h5:k=5
    ·subst h5
     rw[ac (by decide),ac (by decide),ac (by decide),ac (by decide),af rfl] at hk
     rw[af (by decide),af (by decide),wT,wT]
     exact⟨(fG (rz (cI hk).1).1).1,(fG (cI (cI (cI hk).2).2).1).1⟩
    ·rw[ac (by omega),ac (by omega)]
     exact⟨h0,h0⟩
theorem G7 {S:SV} (h:S.wrong=0) (ht:S.tg.ns) (hv:S.va.ns) (hl:(ar (cj S)).length≤2000):mC ⟨(ar (cj S)).toArray⟩=.ok (some S.bst):=by
 obtain⟨hw,hk⟩:=qi h;obtain⟨s,hs⟩:∃s:ByteArray,s=⟨(ar (cj S)).toArray⟩:=⟨_,rfl⟩;have hz:s.size=(ar (cj S)).length:=by rw[hs];show (ar (cj S)).toArray.size=_;simp
 have hln:gc s=(bs 0 (cj S),0,0):=by rw[hs];exact Jm hl (st_gd hw hk)
 have aZ:aj s 0=iz 0 (cj S):=by rw[hs];exact NG _
 have hf:=LN hk;have hra:oG s (bs 0 (cj S))=.ok (S.bst,[]):=by
  have tailR:∀i,(aR (et s.size 400 {bh with lab:=S.lab} (bs i (iM S++dG S))) fun S q=>aR (ge s.size S q) fun S m=>if m.length=0 then .ok (S,m) else .error (2,(ak s.size 0 m).a))=.ok (S.bst,[]):=fun i=>by
   rw[mt,dd_at hk ht hv (fun q=>bJ (pt_len q) (by omega)) (Lb S),aT,wyS_at hw rfl rfl rfl,aT]
   rfl
  unfold oG
  by_cases hlab:S.lab.size=0
  ·have e:cj S=iM S++dG S:=by unfold cj;rw[af hlab];rfl
   have hlb:rK s s.size (bs 0 (cj S))=.ok (ByteArray.empty,bs 0 (cj S)):=by
    unfold rK;rw[ac];rintro⟨q1,q2,q3⟩;rw[aZ,e] at q2;rcases BP S with q | q
    ·have:s.size≠0:=q1
     rw[hz,e] at this;unfold iz at q
     cases hq:ar (iM S++dG S) with
     | nil=>rw[hq] at this;exact this rfl
     | cons c r=>
      rcases FH S with z | ⟨l,z⟩
      ·rw[z] at hq q2
       rcases BI S with y | y
       ·unfold dG at hq q2 y
        split at y
        ·rename_i h0;rw[af h0] at hq;cases hq
        ·exact absurd y (by show ¬(32:Nat)=0;decide)
       ·exact q2 y
      ·rw[z] at q2;exact q2 rfl
    ·exact q2 q
   rw[hlb,aT,←qn hlab,e];exact tailR 0
  ·have e:cj S=wd S.lab::(iM S++dG S):=by unfold cj;rw[ac hlab];rfl
   obtain⟨jY, -,c,r,hcr,oe⟩:=ms (hw.lab hlab);have hb:aj s 0=c.toNat:=by
    rw[aZ,e];unfold iz;rw[dA,show (wd S.lab).b=S.lab.data.toList from rfl,hcr];rfl
   have hlb:rK s s.size (bs 0 (cj S))=.ok (S.lab,bs (0+S.lab.data.toList.length) (iM S++dG S)):=by
    unfold rK;rw[e,nM,af,uD _ (hw.lab hlab)];have hr:=AW oe;refine⟨?_,by omega,by omega⟩
    intro q;rw[pz s 0 (by omega)] at hb
    omega
   rw[hlb,aT];exact tailR _
 rw[←hs];unfold mC;rw[hln,ac,ac (fun q=>q rfl),hra]
 ·show (if S.bst.tg.fits=true∧S.bst.va.fits=true then _ else _)=_
  rw[af hf]
 ·rintro⟨q, -⟩
  rw[aZ] at q
  by_cases hlab:S.lab.size=0
  ·have e:cj S=iM S++dG S:=by unfold cj;rw[af hlab];rfl
   rw[e] at q;rcases BP S with z | z <;> omega
  ·have e:cj S=wd S.lab::(iM S++dG S):=by unfold cj;rw[ac hlab];rfl
   obtain⟨jY, -,c,r,hcr,oe⟩:=ms (hw.lab hlab);rw[e] at q;unfold iz at q;rw[dA,show (wd S.lab).b=S.lab.data.toList from rfl,hcr] at q;have hr:=AW oe;have q:c.toNat=42:=q;omega
end Go.Proofs.YtlmnjbipfacniaaGreatDoor
namespace Go.Proofs
open Go.Shelf Go.RowKit Go.Lib
def Tryz.laysM316_ren:Go.Shelf.Ren:=⟨fun | 316=>133 | n=>n,fun | 9=>9 | 3=>3 | 4=>4 | 37=>48 | 0=>0 | 127=>167 | 5=>5 | n=>n,fun | n=>n⟩
theorem Tryz.laysM316:Go.Proofs.LaysM.n316 Tryz.prog Tryz.laysM316_ren:={
 mixed:=by kernel_rfl
 f316:=Tryz.func133.trans (congrArg some (by kernel_rfl))
 t0:=Tryz.underlying0
 a0:=Tryz.isAgg0
 z0:=Tryz.sizeOf0
 v0:=Tryz.zeroValue0
 t3:=Tryz.underlying3
 a3:=Tryz.isAgg3
 z3:=Tryz.sizeOf3
 v3:=Tryz.zeroValue3
 t4:=Tryz.underlying4
 a4:=Tryz.isAgg4
 z4:=Tryz.sizeOf4
 v4:=Tryz.zeroValue4
 t9:=Tryz.underlying9
 a9:=Tryz.isAgg9
 z9:=Tryz.sizeOf9
 v9:=Tryz.zeroValue9
 t37:=Tryz.underlying48
 a37:=Tryz.isAgg48
 z37:=Tryz.sizeOf48
 v37:=Tryz.zeroValue48
 t127:=Tryz.underlying167
 a127:=Tryz.isAgg167
 z127:=Tryz.sizeOf167
 v127:=Tryz.zeroValue167
 t5:=Tryz.underlying5
 a5:=Tryz.isAgg5
 z5:=Tryz.sizeOf5
 v5:=Tryz.zeroValue5
 i0:=by kernel_rfl
 i3:=by kernel_rfl
 i4:=by kernel_rfl
 i5:=by kernel_rfl
 i9:=by kernel_rfl
 i37:=by kernel_rfl
 i127:=by kernel_rfl}
theorem Tryz.stringslite_Clone (s:ByteArray) (w:World) (hlim:s.size≤281474976710656):
  Calls Tryz.prog 133 #[.string s] w fun e w'=>e=.returned (.string s)∧Below w.heap.size w w':=Any.stringslite_Clone Tryz.laysM316 s w hlim
end Go.Proofs
namespace Go.Proofs.YtlmnjbipfacniaaGreatDoor
open Go.Proofs.Tryz
open Go.RowKit
theorem Kl (s:ByteArray) (w:World) (hs:s.size≤1000000):Calls prog 93 #[.string s] w fun e w'=>e=.returned (.string s)∧Below w.heap.size w w':=by
 go_enter func93,ntmps93;go_wp2_with (go_at_call 133;refine(Tryz.stringslite_Clone s _ (by omega)).mono ?_;rintro e w' ⟨rfl,hb⟩)
 go_ret;exact⟨rfl,hb⟩
end Go.Proofs.YtlmnjbipfacniaaGreatDoor
