/- Statements that are written are read: the whole line. The wr -/
import Derived.Test.YtlmnjbipfacniaaGreatDoorPlFMs
import Derived.Test.YtlmnjbipfacniaaGreatDoorStCMs
import Derived.Below
import Derived.Shelf.LaysM
import Derived.Shelf.Strings.Builder1
import Derived.Shelf.Strings.Builder2
import Derived.Shelf.Strings.OnBuilder
import Derived.Shelf.Small.Strs
import Derived.Test.YtlmnjbipfacniaaGreatDoorProg
import Derived.Test.YtlmnjbipfacniaaGreatDoorExFitsMs
import Derived.Test.YtlmnjbipfacniaaGreatDoorLexRepLibMs
set_option maxRecDepth 100000
set_option maxHeartbeats 8000000
namespace Go.Proofs.YtlmnjbipfacniaaGreatDoor
open Go.Proofs.Tryz
open Go.RowKit
theorem Et (E:Nat) (l:List Tk):ak E 1 l=ak E 0 l.tail:=by cases l <;> rfl
theorem hdT_no {E:Nat} {l:List Tk} (h:HdT (ak E 0 l)):¬((ak E 0 l).k=0∨aL (ak E 0 l) (ah 58)=true):=by
 revert h
 generalize ak E 0 l=t;obtain⟨k,t,a⟩:=t;rintro(h | h | h | ⟨h,h2⟩) <;> (have h:k=_:=h) <;> subst h
 ·rintro(q | q)
  ·exact absurd q (by decide:(1:Nat)≠0)
  ·rw[jq (by decide)] at q;cases q
 ·rintro(q | q)
  ·exact absurd q (by decide:(2:Nat)≠0)
  ·rw[jq (by decide)] at q;cases q
 ·rintro(q | q)
  ·exact absurd q (by decide:(3:Nat)≠0)
  ·rw[jq (by decide)] at q;cases q
 ·rintro(q | q)
  ·exact absurd q (by decide:(5:Nat)≠0)
  ·rcases h2 with h2 | h2 | h2 <;> (have h2:t=_:=h2) <;> subst h2 <;> rw[fH] at q <;> exact absurd q (by decide)
theorem Lp {t:Tk} {s:ByteArray} (h:fL t s=true):t.k=1:=by
 unfold fL at h;rw[uM] at h;exact nf h.1
theorem Ai {E d:Nat} {P:SV} {l:List Tk} (h:HdT (ak E 0 l)) (hs:Sec E l):el E d P l=oc E d P l:=by
 unfold el;rw[ac (hdT_no h),ac,ac]
 ·rintro⟨q1,q2⟩
  have:=(hs q1).2;rw[←Et,q2] at this
  cases this
 ·rintro⟨q1,q2⟩
  have:=(hs (Lp q1)).1;rw[←Et] at this;exact this q2
theorem F8 {E:Nat} {l:List Tk} (h:aL (ak E 0 l) (ah 63)=false):evP E l=.ok (none,l):=by unfold evP;rw[ac (by rw[h];decide)]
theorem F9 {E d a:Nat} {x:PT} {l:List Tk} (h:aL (ak E 0 l) (ah 61)=false):uF E d x a l=.ok (none,l):=by unfold uF;rw[ac (by rw[h];decide)]
theorem GH (T:PT):T.bex.k=T.k:=by rw[T.bex_eq];rfl
theorem cnd_61 {E:Nat} (a:Nat) (l:List Tk):Cnd E 1 (⟨5,ah 61,a⟩::l):=wg rfl (by decide) (by decide) _ _ (by omega)
theorem Gf {E:Nat} (a:Nat) (l:List Tk):Cnd E 1 (⟨5,ah 63,a⟩::l):=wg rfl (by decide) (by decide) _ _ (by omega)
theorem E5 {E:Nat} {T:PT} (h:T.wrong=0) (hl:T.txt.length≤65536) (a b:Nat) (r:List Tk):evP E (⟨5,ah 63,a⟩::⟨4,⟨T.txt.toArray⟩,b⟩::r)=.ok (some T.bar,r):=by
 unfold evP;show (if aL ⟨5,ah 63,a⟩ (ah 63)=true then aR (lV E (⟨4,⟨T.txt.toArray⟩,b⟩::r)) _ else _)=_;rw[fH,af (by decide),FH h hl,aQ]
theorem E6 {E a:Nat} {x T:PT} (hx:n5 x.k=true) (h:T.wrongX=0) (hn:T.ns) (b i:Nat) {r:List Tk} (hr:Cnd E 1 r):uF E 400 x a (⟨5,ah 61,b⟩::(bj i T.exI++r))=.ok (some T.bex,r):=by
 unfold uF;show (if aL ⟨5,ah 61,b⟩ (ah 61)=true then (if n5 x.k=true then aR (exS E 400 (bj i T.exI++r)) _ else _) else _)=_;rw[fH,af (by decide),af hx,yx h hn i r hr,aQ]
theorem rR {T:PT} (h:lT T=0):T.wrongX=0∧n5 T.k=true:=by
 unfold lT at h
 by_cases q:T.wrongX≠0
 ·rw[af q] at h;exact absurd h q
 ·rw[ac q] at h
  by_cases z:n5 T.k=true
  ·exact⟨by omega,z⟩
  ·rw[ac z] at h;omega
theorem cH {x:Int} {l:List Int} (h:ek (x::l)=0):x=0∧ek l=0:=by
 rw[ek] at h
 by_cases q:x=0
 ·rw[af q] at h;exact⟨q,h⟩
 ·rw[ac q] at h;exact absurd h q
theorem dd_at {E i:Nat} {S:SV} (hk:S.kndE=0) (ht:S.tg.ns) (hv:S.va.ns) (hp:S.k=4∨S.k=5∨S.k=6→S.pa.txt.length≤65536) {r:List Tk} (hR:tn r):
  el E 400 {cc with lab:=S.lab} (bj i (iA S)++r)=.ok ({S.bst with al:=ByteArray.empty,ye:=ByteArray.empty,no:=ByteArray.empty},r):=by
 obtain⟨lab,k,tg,va,pt,nm,en,ps,ls,al,ye,no⟩:=S;have ht:tg.ns:=ht;have hv:va.ns:=hv;have hc:=hR.cnd (E:=E);unfold SV.kndE at hk;dsimp only at hk
 by_cases h1:k=1
 ·subst h1
  show el E 400 _ r=_;unfold el;rw[af]
  ·rfl
  ·rcases hR with rfl | ⟨a,l,rfl⟩
   ·exact .inl rfl
   ·exact .inr ((fH 58 58 a).trans (fk rfl))
 ·rw[ac h1] at hk
  by_cases h2:k=2
  ·subst h2
   rw[af rfl] at hk;obtain⟨hf,hb⟩:=ft hk;show el E 400 _ (bj (i+1) va.exI++r)=_;rw[Ai ((xZ va hb hv).hd (i+1) r) (zK va hb (i+1) r hR.sec)];unfold oc;rw[yx hk hv (i+1) r hc,aQ,F8 (hR.not (by decide)),aQ,F9 (hR.not (by decide)),aQ]
   rfl
  ·rw[ac h2] at hk
   by_cases h4:k=4
   ·subst h4
    rw[af rfl] at hk;obtain⟨hx,hk⟩:=cH hk;obtain⟨iG, -⟩:=cH hk;obtain⟨hf,hb⟩:=ft hx;have hp:pt.txt.length≤65536:=hp (.inl rfl);show el E 400 _ (bj (i+1) (va.exI++(bl::sg 63::bl::[pa ⟨pt.txt.toArray⟩]))++r)=_;rw[mr,mx,gu,mx,Gy,qN,fT];generalize i+1+(ar va.exI).length+1=j;show el E 400 _ (bj (i+1) va.exI++(⟨5,ah 63,j⟩::⟨4,⟨pt.txt.toArray⟩,j+1+1⟩::r))=_;rw[Ai ((xZ va hb hv).hd (i+1) _) (zK va hb (i+1) _ (vW 63 _ _))];unfold oc;rw[yx hx hv (i+1) _ (Gf _ _),aQ,E5 iG hp,aQ,F9 (hR.not (by decide)),aQ]
    rfl
   ·rw[ac h4] at hk
    by_cases h3:k=3
    ·subst h3
     rw[af rfl] at hk;obtain⟨kJ,hk⟩:=cH hk;obtain⟨hx, -⟩:=cH hk;obtain⟨lm,kK⟩:=rR kJ;obtain⟨hf,hb⟩:=ft lm;show el E 400 _ (bj (i+1) (tg.exI++(bl::sg 61::bl::va.exI))++r)=_;rw[mr,mx,gu,mx,fT];generalize i+1+(ar tg.exI).length+1=j;show el E 400 _ (bj (i+1) tg.exI++(⟨5,ah 61,j⟩::(bj (j+1+1) va.exI++r)))=_;rw[Ai ((xZ tg hb ht).hd (i+1) _) (zK tg hb (i+1) _ (vW 61 _ _))];unfold oc;have e61:∀l:List Tk,aL (ak E 0 ((⟨5,ah 61,j⟩:Tk)::l)) (ah 63)=false:=fun _=>(fH 61 63 j).trans (db (by decide))
     rw[yx lm ht (i+1) _ (cnd_61 _ _),aQ,F8 (e61 _),aQ,E6 (by rw[GH];exact kK) hx hv j (j+1+1) hc,aQ]
     rfl
    ·rw[ac h3] at hk
     by_cases h5:k=5
     ·subst h5
      rw[af rfl] at hk;obtain⟨kJ,hk⟩:=cH hk;obtain⟨iG,hk⟩:=cH hk;obtain⟨hx, -⟩:=cH hk;obtain⟨lm,kK⟩:=rR kJ;obtain⟨hf,hb⟩:=ft lm;have hp:pt.txt.length≤65536:=hp (.inr (.inl rfl));show el E 400 _ (bj (i+1) (tg.exI++(bl::sg 63::bl::pa ⟨pt.txt.toArray⟩::bl::sg 61::bl::va.exI))++r)=_;rw[mr,mx,gu,mx,Gy,mx,gu,mx,fT];generalize i+1+(ar tg.exI).length+1=j;generalize j+1+1+(91::((⟨pt.txt.toArray⟩:ByteArray).data.toList++[93])).length+1=m;show el E 400 _ (bj (i+1) tg.exI++(⟨5,ah 63,j⟩::⟨4,⟨pt.txt.toArray⟩,j+1+1⟩::⟨5,ah 61,m⟩::(bj (m+1+1) va.exI++r)))=_;rw[Ai ((xZ tg hb ht).hd (i+1) _) (zK tg hb (i+1) _ (vW 63 _ _))];unfold oc;rw[yx lm ht (i+1) _ (Gf _ _),aQ,E5 iG hp,aQ,E6 (by rw[GH];exact kK) hx hv m (m+1+1) hc,aQ]
      rfl
     ·rw[ac h5] at hk
      by_cases h6:k=6
      ·subst h6
       rw[af rfl] at hk;obtain⟨dm,hk⟩:=cH hk;obtain⟨iG, -⟩:=cH hk;have dm:=mW dm nm (by simp)
       have hp:pt.txt.length≤65536:=hp (.inr (.inr rfl));show el E 400 _ (⟨1,nm,i+1⟩::⟨5,ju,i+1+nm.data.toList.length+1⟩::⟨4,⟨pt.txt.toArray⟩,i+1+nm.data.toList.length+1+2+1⟩::r)=_;generalize i+1+nm.data.toList.length+1=j;have e5:aL ⟨5,ju,j⟩ ju=true:=by unfold aL;show (true && decide (ju=ju))=true;rw[fk rfl];rfl
       unfold el;rw[ac,ac,af ⟨rfl,e5⟩]
       ·show aR (dL E (⟨1,nm,i+1⟩::_)) _=_
        rw[uu E dm,aQ];show aR (if aL ⟨5,ju,j⟩ ju=true then Except.ok ((),⟨4,⟨pt.txt.toArray⟩,j+2+1⟩::r) else _) _=_;rw[af e5,aQ,FH iG hp,aQ];rfl
       ·rintro⟨-,q⟩;exact absurd q (by decide:(5:Nat)≠1)
       ·rintro(q | q)
        ·exact absurd q (by decide:(1:Nat)≠0)
        ·exact absurd ((jq (by decide)).symm.trans q) (by decide)
      ·rw[ac h6] at hk
       by_cases h7:k=7
       ·subst h7
        rw[af rfl] at hk;have hd:ek [dH [nm,en],dH ps.l,dH ls.l]=0∧¬(8 < ps.l.length∨8 < ls.l.length):=by
         unfold SV.dfE at hk;dsimp only at hk
         by_cases q:ek [dH [nm,en],dH ps.l,dH ls.l]=0∧(8 < ps.l.length∨8 < ls.l.length)
         ·rw[af q] at hk;omega
         ·rw[ac q] at hk;exact⟨hk,fun z=>q ⟨hk,z⟩⟩
        obtain⟨hd,h8⟩:=hd;obtain⟨l9,hd⟩:=cH hd;obtain⟨j7,hd⟩:=cH hd;obtain⟨hn3, -⟩:=cH hd;have dm:=mW l9 nm (by simp)
        have hen:=mW l9 en (by simp)
        show el E 400 _ (⟨1,mZ,i+1⟩::⟨1,nm,i+1+mZ.data.toList.length+1⟩::⟨5,ah 40,i+1+mZ.data.toList.length+1+nm.data.toList.length⟩::(bj (i+1+mZ.data.toList.length+1+nm.data.toList.length+1) (fj ps.l++(sg 41::(fj ls.l++(bl::[wd en]))))++r))=_;generalize i+1+mZ.data.toList.length+1+nm.data.toList.length=j;generalize i+1+mZ.data.toList.length+1=j0;unfold el;rw[ac,af ⟨(xm mZ mZ _).trans (fk rfl),rfl⟩]
        ·show aR (dfS E (⟨1,nm,j0⟩::⟨5,ah 40,j⟩::(bj (j+1) (fj ps.l++(sg 41::(fj ls.l++(bl::[wd en]))))++r))) _=_
         unfold dfS;rw[uu E dm,aQ,uv,aQ,dpS_at (mW j7) (by omega),aQ,dlS_at (mW hn3) (by omega) hR,aQ,uu E hen,aQ,aQ]
         rfl
        ·rintro(q | q)
         ·exact absurd q (by decide:(1:Nat)≠0)
         ·exact absurd ((jq (by decide)).symm.trans q) (by decide)
       ·rw[ac h7] at hk;omega
theorem M6 {S:SV} (hk:S.kndE=0) {c:Nat} (hc:rW c):Gd c (iA S):=by
 obtain⟨lab,k,tg,va,pt,nm,en,ps,ls,al,ye,no⟩:=S;unfold SV.kndE at hk;dsimp only at hk
 by_cases h1:k=1
 ·subst h1;exact mY
 ·rw[ac h1] at hk
  by_cases h2:k=2
  ·subst h2
   rw[af rfl] at hk;exact jJ (xn va (ft hk).2 c hc)
  ·rw[ac h2] at hk
   by_cases h4:k=4
   ·subst h4
    rw[af rfl] at hk;obtain⟨hx,hk⟩:=cH hk;obtain⟨iG, -⟩:=cH hk;exact jJ (mu (jJ (kX (by decide) (by decide) (jJ (Cl (vO iG).2 mY)))) (xn va (ft hx).2 _ zJ))
   ·rw[ac h4] at hk
    by_cases h3:k=3
    ·subst h3
     rw[af rfl] at hk;obtain⟨kJ,hk⟩:=cH hk;obtain⟨hx, -⟩:=cH hk;exact jJ (mu (jJ (kX (by decide) (by decide) (jJ (xn va (ft hx).2 c hc)))) (xn tg (ft (rR kJ).1).2 _ zJ))
    ·rw[ac h3] at hk
     by_cases h5:k=5
     ·subst h5
      rw[af rfl] at hk;obtain⟨kJ,hk⟩:=cH hk;obtain⟨iG,hk⟩:=cH hk;obtain⟨hx, -⟩:=cH hk;exact jJ (mu (jJ (kX (by decide) (by decide) (jJ (Cl (vO iG).2 (jJ (kX (by decide) (by decide) (jJ (xn va (ft hx).2 c hc)))))))) (xn tg (ft (rR kJ).1).2 _ zJ))
     ·rw[ac h5] at hk
      by_cases h6:k=6
      ·subst h6
       rw[af rfl] at hk;obtain⟨dm,hk⟩:=cH hk;obtain⟨iG, -⟩:=cH hk;exact jJ (pR (mW dm nm (by simp)) (by decide:dB 32=false) (jJ (gd_df (jJ (Cl (vO iG).2 mY)))))
      ·rw[ac h6] at hk
       by_cases h7:k=7
       ·subst h7
        rw[af rfl] at hk;have hd:ek [dH [nm,en],dH ps.l,dH ls.l]=0:=by
         unfold SV.dfE at hk;dsimp only at hk
         by_cases q:ek [dH [nm,en],dH ps.l,dH ls.l]=0∧(8 < ps.l.length∨8 < ls.l.length)
         ·rw[af q] at hk;omega
         ·rw[ac q] at hk;exact hk
        obtain⟨l9,hd⟩:=cH hd;obtain⟨j7,hd⟩:=cH hd;obtain⟨hn3, -⟩:=cH hd;exact jJ (pR (by decide) (by decide:dB 32=false) (jJ (pR (mW l9 nm (by simp)) (by decide:dB 40=false) (kX (by decide) (by decide)
         (mu (kX (by decide) (by decide) (mu (b:=bl::[wd en]) (jJ (pR (mW l9 en (by simp)) hc.1 mY)) (Bd (by decide:dB 32=false) ls.l (mW hn3)))) (Bd (by decide:dB 41=false) ps.l (mW j7)))))))
       ·rw[ac h7] at hk;omega
theorem Fo (S:SV):iA S=[]∨∃l,iA S=bl::l:=by
 unfold iA
 repeat' split
 all_goals first | exact .inl rfl | exact .inr ⟨_,rfl⟩
theorem Bz (S:SV):im 0 (iA S++dx S)=0∨im 0 (iA S++dx S)=32:=by
 rcases Fo S with h | ⟨l,h⟩
 ·rw[h];exact Bs S
 ·rw[h];exact .inr rfl
theorem st_gd {S:SV} (hw:WayOK S) (hk:S.kndE=0):Gd 0 (bT S):=by
 have hb:Gd 0 (iA S++dx S):=mu (MW hw) (M6 hk (by rcases Bs S with h | h <;> rw[h] <;> exact⟨by decide,by decide⟩))
 unfold bT;split
 ·exact hb
 ·rename_i h
  exact mu hb (pR (hw.lab h) (by show dB (im 0 (iA S++dx S))=false;rcases Bz S with h | h <;> rw[h] <;> decide) mY)
theorem Na (l:List It):aj ⟨(ar l).toArray⟩ 0=im 0 l:=by
 unfold aj im
 cases h:ar l with
 | nil=>rfl
 | cons c r=>rfl
theorem pt_len {S:SV} (h:S.k=4∨S.k=5∨S.k=6):S.pa.txt.length≤(ar (bT S)).length:=by
 have hp:S.pa.txt.length≤(ar [td S]).length:=by
  show _≤(91::(S.pa.txt.toArray.toList++[93])++[]).length;simp;omega
 have hs:(ar (iA S)).length≤(ar (bT S)).length:=by
  unfold bT;rw[fW,fW,be,be];omega
 refine bv ?_ hs;have hc:∀(x:It) (l:List It),(ar l).length≤(ar (x::l)).length:=fun x l=>by rw[dq,be];omega
 have ha:∀a b:List It,(ar b).length≤(ar (a++b)).length:=fun a b=>by rw[fW,be];omega
 have hq:∀l:List It,(ar [td S]).length≤(ar (td S::l)).length:=fun l=>by
  rw[dq,dq,be,be];show _+0≤_;omega
 unfold iA;rcases h with h | h | h
 ·rw[ac (by omega),ac (by omega),af h]
  exact bv hp (bv (bv (bv (bv (hc bl _) (hc (sg 63) _)) (hc bl _)) (ha S.va.exI _)) (hc bl _))
 ·rw[ac (by omega),ac (by omega),ac (by omega),af h]
  exact bv hp (bv (bv (bv (bv (bv (hq _) (hc bl _)) (hc (sg 63) _)) (hc bl _)) (ha S.tg.exI _)) (hc bl _))
 ·rw[ac (by omega),ac (by omega),ac (by omega),ac (by omega),af h]
  exact bv hp (bv (bv (bv (bv (hc bl _) (hc df _)) (hc bl _)) (hc (wd S.nm) _)) (hc bl _))
theorem M9:∀T:PT,T.bex.cnt=T.cnt:=wK fun T ih=>by
 rw[T.bex_eq,ET,yg T,ul,ul,wv];exact aD (fun l=>1+List.sum l) (As fun x hx=>ih x hx)
theorem M8:∀T:PT,T.bex.dep=T.dep:=wK fun T ih=>by
 rw[T.bex_eq,ES,xh T,zF ih]
theorem wX (T:PT):T.bex.fits=T.fits:=by unfold PT.fits;rw[M9,M8]
theorem Ll {S:SV} (hk:S.kndE=0):S.bst.tg.fits=true∧S.bst.va.fits=true:=by
 obtain⟨lab,k,tg,va,pt,nm,en,ps,ls,al,ye,no⟩:=S;have h0:PT.nul.fits=true:=by decide
 unfold SV.kndE at hk;dsimp only at hk;unfold SV.bst;dsimp only
 by_cases h2:k=2
 ·subst h2
  rw[ac (by decide),af rfl] at hk
  rw[ac (by decide),af (by decide),wX]
  exact⟨h0,(ft hk).1⟩
 ·by_cases h4:k=4
  ·subst h4
   rw[ac (by decide),ac (by decide),af rfl] at hk
   rw[ac (by decide),af (by decide),wX]
   exact⟨h0,(ft (cH hk).1).1⟩
  ·by_cases h3:k=3
   ·subst h3
    rw[ac (by decide),ac (by decide),ac (by decide),af rfl] at hk
    rw[af (by decide),af (by decide),wX,wX]
    exact⟨(ft (rR (cH hk).1).1).1,(ft (cH (cH hk).2).1).1⟩
   ·by_cases h5:k=5
    ·subst h5
     rw[ac (by decide),ac (by decide),ac (by decide),ac (by decide),af rfl] at hk
     rw[af (by decide),af (by decide),wX,wX]
     exact⟨(ft (rR (cH hk).1).1).1,(ft (cH (cH (cH hk).2).2).1).1⟩
    ·rw[ac (by omega),ac (by omega)]
     exact⟨h0,h0⟩
theorem GD {S:SV} (h:S.wrong=0) (ht:S.tg.ns) (hv:S.va.ns) (hl:(ar (bT S)).length≤2000):jb ⟨(ar (bT S)).toArray⟩=.ok (some S.bst):=by
 obtain⟨hw,hk⟩:=qE h;obtain⟨s,hs⟩:∃s:ByteArray,s=⟨(ar (bT S)).toArray⟩:=⟨_,rfl⟩;have hz:s.size=(ar (bT S)).length:=by rw[hs];show (ar (bT S)).toArray.size=_;simp
 have hln:gx s=(bj 0 (bT S),0,0):=by rw[hs];exact IY hl (st_gd hw hk)
 have bd:aj s 0=im 0 (bT S):=by rw[hs];exact Na _
 have hf:=Ll hk;have hra:qQ s (bj 0 (bT S))=.ok (S.bst,[]):=by
  have tailR:∀i,(aR (el s.size 400 {cc with lab:=S.lab} (bj i (iA S++dx S))) fun S q=>aR (fZ s.size S q) fun S m=>if m.length=0 then .ok (S,m) else .error (2,(ak s.size 0 m).a))=.ok (S.bst,[]):=fun i=>by
   rw[mr,dd_at hk ht hv (fun q=>bv (pt_len q) (by omega)) (KD S),aQ,wyS_at hw rfl rfl rfl,aQ]
   rfl
  unfold qQ
  by_cases hlab:S.lab.size=0
  ·have e:bT S=iA S++dx S:=by unfold bT;rw[af hlab];rfl
   have hlb:th s s.size (bj 0 (bT S))=.ok (ByteArray.empty,bj 0 (bT S)):=by
    unfold th;rw[ac];rintro⟨q1,q2,q3⟩;rw[bd,e] at q2;rcases Bz S with q | q
    ·have:s.size≠0:=q1
     rw[hz,e] at this;unfold im at q
     cases hq:ar (iA S++dx S) with
     | nil=>rw[hq] at this;exact this rfl
     | cons c r=>
      rcases Fo S with z | ⟨l,z⟩
      ·rw[z] at hq q2
       rcases Bs S with y | y
       ·unfold dx at hq q2 y
        split at y
        ·rename_i h0;rw[af h0] at hq;cases hq
        ·exact absurd y (by show ¬(32:Nat)=0;decide)
       ·exact q2 y
      ·rw[z] at q2;exact q2 rfl
    ·exact q2 q
   rw[hlb,aQ,←qJ hlab,e];exact tailR 0
  ·have e:bT S=wd S.lab::(iA S++dx S):=by unfold bT;rw[ac hlab];rfl
   obtain⟨jO, -,c,r,hcr,ov⟩:=mq (hw.lab hlab);have hb:aj s 0=c.toNat:=by
    rw[bd,e];unfold im;rw[dq,show (wd S.lab).b=S.lab.data.toList from rfl,hcr];rfl
   have hlb:th s s.size (bj 0 (bT S))=.ok (S.lab,bj (0+S.lab.data.toList.length) (iA S++dx S)):=by
    unfold th;rw[e,nW,af,uu _ (hw.lab hlab)];have hr:=AL ov;refine⟨?_,by omega,by omega⟩
    intro q;rw[pM s 0 (by omega)] at hb
    omega
   rw[hlb,aQ];exact tailR _
 rw[←hs];unfold jb;rw[hln,ac,ac (fun q=>q rfl),hra]
 ·show (if S.bst.tg.fits=true∧S.bst.va.fits=true then _ else _)=_
  rw[af hf]
 ·rintro⟨q, -⟩
  rw[bd] at q
  by_cases hlab:S.lab.size=0
  ·have e:bT S=iA S++dx S:=by unfold bT;rw[af hlab];rfl
   rw[e] at q;rcases Bz S with z | z <;> omega
  ·have e:bT S=wd S.lab::(iA S++dx S):=by unfold bT;rw[ac hlab];rfl
   obtain⟨jO, -,c,r,hcr,ov⟩:=mq (hw.lab hlab);rw[e] at q;unfold im at q;rw[dq,show (wd S.lab).b=S.lab.data.toList from rfl,hcr] at q;have hr:=AL ov;have q:c.toNat=42:=q;omega
open Go.RowKit
def k5 (h t:ByteArray):List UInt8:=if t.size=0 then [] else h.data.toList++([40]++(t.data.toList++[41]))
theorem zh {t:ByteArray} (h:t.size≠0):t.toList.isEmpty=false:=by rw[isEmpty_iff];exact db h
theorem za {t:ByteArray} (h:t.size=0):t.toList.isEmpty=true:=by rw[isEmpty_iff];exact fk h
theorem sR {W w:World} {B z:Nat} {v:Value} {o:List UInt8} {f:Bool} (h t:ByteArray) (hE:EnvW W) (hb:Below W.heap.size W w) (hz:W.heap.size≤z) (hW:WrI B z w v o f) (hh:h.size≤1) (ht:t.size≤16) (ho:max o.length 140000+19≤9900000):
  Calls prog 84 #[.pointer (some ⟨z,0,none⟩),.string h,.string t] w fun e w'=>ik B z w v o (k5 h t) f 19 e w':=by
 have H1:=ab (Wn.start hb hW);have HZ:=ab (And.intro hE hz);have e40:(ah 40).size=1:=rfl;have e41:(ah 41).size=1:=rfl;have cg:Hid (Calls prog 42 #[.pointer (some ⟨z,0,none⟩),.slice (some ⟨w.heap.size,0,none⟩) 4 4] (w.alloc (.cells #[.string h,.string ⟨#[40]⟩,.string t,.string ⟨#[41]⟩] 9)) _):=ab ((aa H1).put hE hz (by omega) [h,ah 40,t,ah 41] (by simp) (fun t ht=>by simp only[dO,eg,fN] at ht;rcases ht with rfl | rfl | rfl | rfl <;> omega) 19 (by show (bH [h,ah 40,t,ah 41]).length≤19;unfold bH;simp only[gU,iE,be,List.length_nil,eQ];omega))
 clear hE hb hW
 by_cases h0:t.size=0
 ·have HT:Hid (k5 h t=[]):=ab (af h0)
  have he:=za h0;have HF:=ab ((aa H1).done (t:=k5 h t) (c:=19) (aa HT).symm (by omega))
  clear h0;go_enter func84,ntmps84;go_wp2_with fail;go_end0;exact⟨rfl,aa HF⟩
 ·have HT:Hid (k5 h t=h.data.toList++([40]++(t.data.toList++[41]))):=ab (ac h0)
  have he:=zh h0;clear h0;go_enter func84,ntmps84;go_wp2_with fail;refine(aa cg).mono ?_;rintro e w2 ⟨rfl,v2,o2,f2,h2, -⟩;have HF:=ab (h2.done (t:=k5 h t) (c:=19) (by rw[aa HT,kx,kx,kx,fw];rfl) (by omega))
  clear h2;go_wp2_with fail;go_end0;exact⟨rfl,aa HF⟩
theorem BT (h t:ByteArray) (w:List It) (hw:ar w=h.data.toList):ar (my w t)=k5 h t:=by
 unfold my k5;split
 ·rfl
 ·rw[fW,hw]
  show _++([40]++(t.data.toList++[41]))=_;rfl
theorem bB {w:World} {g:Nat} {C:Array Value} {t:TypeId} (h:w.heap[g]? =some (.cells C t (0,0))) {k:Nat} {u:Value} (hk:C[k]? =some u):w.cell? ⟨g,k,none⟩=some u:=by rw[eB _ _ _ _ _ _ h];exact hk
theorem vR (S:SV) {W w:World} {B z:Nat} {v:Value} {o:List UInt8} {f:Bool} (hE:EnvW W) (hb:Below W.heap.size W w) (hz:W.heap.size≤z) (hW:WrI B z w v o f) (ha:S.al.size≤16) (hy:S.ye.size≤16) (hn:S.no.size≤16) (ho:max o.length 140000+80≤9900000):
  Calls prog 45 #[.pointer (some ⟨z,0,none⟩),S.v] w fun e w'=>ik B z w v o (ar (dx S)) f 80 e w':=by
 have hzl:z < w.heap.size:=(bC.1 hW.blk).1;have bX:w.heap.size≠z:=by omega
 obtain⟨C,hC⟩:∃C,C=S.cells:=⟨_,rfl⟩;have dI:S.v=.agg C:=by rw[hC];rfl
 have HC:Hid (C.size=24∧C[21]? =some (.string S.al)∧C[22]? =some (.string S.ye)∧C[23]? =some (.string S.no)):=ab (by rw[hC];exact⟨rfl,rfl,rfl,rfl⟩)
 rw[dI];obtain⟨w1,aI⟩:∃w1,w1=w.alloc (.cells C 30):=⟨_,rfl⟩;have bp:Below w.heap.size w w1:=by rw[aI];exact ba _
 have am:w1.heap[w.heap.size]? =some (.cells C 30 (0,0)):=by rw[aI];exact ax rfl
 have H1:=ab ((Wn.start hb hW).below bp);have bA:=ab am;have bL:Hid (w1.heap.size=w.heap.size+1):=ab (by rw[aI];simp)
 have bG:Hid (w.alloc (.cells C 30)=w1):=ab (aI.symm);have HZ:=ab (And.intro hE hz);have e2:(⟨#[32,58]⟩:ByteArray).size=2:=rfl;have AA:=bB am (aa HC).2.1;have Az:=bB am (aa HC).2.2.1;have Ay:=bB am (aa HC).2.2.2;rw[aI] at AA Az Ay;have HIY:Hid ((¬(S.al.size=0∧S.ye.size=0∧S.no.size=0))→ar (dx S)=[32,58]++(k5 ByteArray.empty S.al++(k5 ⟨#[83]⟩ S.ye++k5 ⟨#[70]⟩ S.no))):=ab (fun h=>by
  unfold dx;rw[ac h,dq,dq,fW,fW,BT ByteArray.empty S.al [] rfl,BT ⟨#[83]⟩ S.ye [wd (ah 83)] rfl,BT ⟨#[70]⟩ S.no [wd (ah 70)] rfl];rfl)
 have iV:Hid ((S.al.size=0∧S.ye.size=0∧S.no.size=0)→ar (dx S)=[]):=ab (fun h=>by unfold dx;rw[af h];rfl)
 clear hE hb hW bp am aI hC dI
 by_cases ea:S.al.size=0
 ·have ha0:=za ea
  by_cases ey:S.ye.size=0
  ·have hy0:=za ey
   by_cases en:S.no.size=0
   ·have hn0:=za en
    have HI:=ab (aa iV ⟨ea,ey,en⟩);have HF:=ab ((aa H1).done (t:=ar (dx S)) (c:=80) (aa HI).symm (by omega))
    clear ea ey en HIY iV;go_enter func45,ntmps45;go_wp2_with fail;rw[aa bG];refine bK (results_none rfl _ _ _) rfl ?_;exact⟨rfl,aa HF⟩
   ·have hn0:=zh en
    have HI:=ab (aa HIY (fun q=>en q.2.2))
    clear ea ey en HIY iV;have cg:Hid (Calls prog 42 #[.pointer (some ⟨z,0,none⟩),.slice (some ⟨w1.heap.size,0,none⟩) 1 1] (w1.alloc (.cells #[.string ⟨#[32,58]⟩] 9)) _):=ab ((aa H1).put (aa HZ).1 (aa HZ).2 (by omega) [⟨#[32,58]⟩] (by simp) (fun t ht=>by simp only[dO,eg,fN] at ht;subst ht;omega) 2 (by decide))
    rw[aa bL] at cg;go_enter func45,ntmps45;go_wp2_with fail;rw[aa bG];refine(aa cg).mono ?_;rintro e w2 ⟨rfl,v2,o2,f2,h2,cJ⟩;have cV:=ab (cJ.keep (aa H1).wr (aa bA) (by decide) bX)
    have vu:=bB (aa cV) (aa HC).2.1;have eq:=ab (sR ByteArray.empty S.al (aa HZ).1 h2.bel (aa HZ).2 h2.wr (by decide) ha (h2.len2 (by omega)))
    have H2:=ab h2;clear h2 cJ cg H1 AA Az Ay;unfold ByteArray.empty ByteArray.emptyWithCapacity at eq;go_wp2_with fail;refine(aa eq).mono ?_;rintro e w3 ⟨rfl,bg⟩;obtain⟨v3,o3,f3,h3,dl⟩:=(aa H2).sub (aa HZ).2 bg;have dc:=ab (dl.keep (aa H2).wr (aa cV) (by decide) bX)
    have nI:=bB (aa dc) (aa HC).2.2.1;have cS:=ab (sR ⟨#[83]⟩ S.ye (aa HZ).1 h3.bel (aa HZ).2 h3.wr (by decide) hy (h3.len2 (by omega)))
    have H3:=ab h3;clear h3 dl bg eq H2 vu;go_wp2_with fail;refine(aa cS).mono ?_;rintro e w4 ⟨rfl,bg⟩;obtain⟨v4,o4,f4,h4,cv⟩:=(aa H3).sub (aa HZ).2 bg;have lN:=ab (cv.keep (aa H3).wr (aa dc) (by decide) bX)
    have c23:=bB (aa lN) (aa HC).2.2.2;have gr:=ab (sR ⟨#[70]⟩ S.no (aa HZ).1 h4.bel (aa HZ).2 h4.wr (by decide) hn (h4.len2 (by omega)))
    have H4:=ab h4;clear h4 cv bg cS H3 nI;go_wp2_with fail;refine(aa gr).mono ?_;rintro e w5 ⟨rfl,bg⟩;obtain⟨v5,o5,f5,h5, -⟩:=(aa H4).sub (aa HZ).2 bg;have HF:=ab (h5.done (t:=ar (dx S)) (c:=80) (by rw[aa HI,fw];show []++[32,58]++k5 ByteArray.empty S.al++k5 ⟨#[83]⟩ S.ye++k5 ⟨#[70]⟩ S.no=_;simp) (by omega))
    clear h5 bg gr H4 c23;go_wp2_with fail;go_end0;exact⟨rfl,aa HF⟩
  ·have hy0:=zh ey
   have HI:=ab (aa HIY (fun q=>ey q.2.1))
   clear ea ey HIY iV;have cg:Hid (Calls prog 42 #[.pointer (some ⟨z,0,none⟩),.slice (some ⟨w1.heap.size,0,none⟩) 1 1] (w1.alloc (.cells #[.string ⟨#[32,58]⟩] 9)) _):=ab ((aa H1).put (aa HZ).1 (aa HZ).2 (by omega) [⟨#[32,58]⟩] (by simp) (fun t ht=>by simp only[dO,eg,fN] at ht;subst ht;omega) 2 (by decide))
   rw[aa bL] at cg;go_enter func45,ntmps45;go_wp2_with fail;rw[aa bG];refine(aa cg).mono ?_;rintro e w2 ⟨rfl,v2,o2,f2,h2,cJ⟩;have cV:=ab (cJ.keep (aa H1).wr (aa bA) (by decide) bX)
   have vu:=bB (aa cV) (aa HC).2.1;have eq:=ab (sR ByteArray.empty S.al (aa HZ).1 h2.bel (aa HZ).2 h2.wr (by decide) ha (h2.len2 (by omega)))
   have H2:=ab h2;clear h2 cJ cg H1 AA Az Ay;unfold ByteArray.empty ByteArray.emptyWithCapacity at eq;go_wp2_with fail;refine(aa eq).mono ?_;rintro e w3 ⟨rfl,bg⟩;obtain⟨v3,o3,f3,h3,dl⟩:=(aa H2).sub (aa HZ).2 bg;have dc:=ab (dl.keep (aa H2).wr (aa cV) (by decide) bX)
   have nI:=bB (aa dc) (aa HC).2.2.1;have cS:=ab (sR ⟨#[83]⟩ S.ye (aa HZ).1 h3.bel (aa HZ).2 h3.wr (by decide) hy (h3.len2 (by omega)))
   have H3:=ab h3;clear h3 dl bg eq H2 vu;go_wp2_with fail;refine(aa cS).mono ?_;rintro e w4 ⟨rfl,bg⟩;obtain⟨v4,o4,f4,h4,cv⟩:=(aa H3).sub (aa HZ).2 bg;have lN:=ab (cv.keep (aa H3).wr (aa dc) (by decide) bX)
   have c23:=bB (aa lN) (aa HC).2.2.2;have gr:=ab (sR ⟨#[70]⟩ S.no (aa HZ).1 h4.bel (aa HZ).2 h4.wr (by decide) hn (h4.len2 (by omega)))
   have H4:=ab h4;clear h4 cv bg cS H3 nI;go_wp2_with fail;refine(aa gr).mono ?_;rintro e w5 ⟨rfl,bg⟩;obtain⟨v5,o5,f5,h5, -⟩:=(aa H4).sub (aa HZ).2 bg;have HF:=ab (h5.done (t:=ar (dx S)) (c:=80) (by rw[aa HI,fw];show []++[32,58]++k5 ByteArray.empty S.al++k5 ⟨#[83]⟩ S.ye++k5 ⟨#[70]⟩ S.no=_;simp) (by omega))
   clear h5 bg gr H4 c23;go_wp2_with fail;go_end0;exact⟨rfl,aa HF⟩
 ·have ha0:=zh ea
  have HI:=ab (aa HIY (fun q=>ea q.1))
  clear ea HIY iV;have cg:Hid (Calls prog 42 #[.pointer (some ⟨z,0,none⟩),.slice (some ⟨w1.heap.size,0,none⟩) 1 1] (w1.alloc (.cells #[.string ⟨#[32,58]⟩] 9)) _):=ab ((aa H1).put (aa HZ).1 (aa HZ).2 (by omega) [⟨#[32,58]⟩] (by simp) (fun t ht=>by simp only[dO,eg,fN] at ht;subst ht;omega) 2 (by decide))
  rw[aa bL] at cg;go_enter func45,ntmps45;go_wp2_with fail;rw[aa bG];refine(aa cg).mono ?_;rintro e w2 ⟨rfl,v2,o2,f2,h2,cJ⟩;have cV:=ab (cJ.keep (aa H1).wr (aa bA) (by decide) bX)
  have vu:=bB (aa cV) (aa HC).2.1;have eq:=ab (sR ByteArray.empty S.al (aa HZ).1 h2.bel (aa HZ).2 h2.wr (by decide) ha (h2.len2 (by omega)))
  have H2:=ab h2;clear h2 cJ cg H1 AA Az Ay;unfold ByteArray.empty ByteArray.emptyWithCapacity at eq;go_wp2_with fail;refine(aa eq).mono ?_;rintro e w3 ⟨rfl,bg⟩;obtain⟨v3,o3,f3,h3,dl⟩:=(aa H2).sub (aa HZ).2 bg;have dc:=ab (dl.keep (aa H2).wr (aa cV) (by decide) bX)
  have nI:=bB (aa dc) (aa HC).2.2.1;have cS:=ab (sR ⟨#[83]⟩ S.ye (aa HZ).1 h3.bel (aa HZ).2 h3.wr (by decide) hy (h3.len2 (by omega)))
  have H3:=ab h3;clear h3 dl bg eq H2 vu;go_wp2_with fail;refine(aa cS).mono ?_;rintro e w4 ⟨rfl,bg⟩;obtain⟨v4,o4,f4,h4,cv⟩:=(aa H3).sub (aa HZ).2 bg;have lN:=ab (cv.keep (aa H3).wr (aa dc) (by decide) bX)
  have c23:=bB (aa lN) (aa HC).2.2.2;have gr:=ab (sR ⟨#[70]⟩ S.no (aa HZ).1 h4.bel (aa HZ).2 h4.wr (by decide) hn (h4.len2 (by omega)))
  have H4:=ab h4;clear h4 cv bg cS H3 nI;go_wp2_with fail;refine(aa gr).mono ?_;rintro e w5 ⟨rfl,bg⟩;obtain⟨v5,o5,f5,h5, -⟩:=(aa H4).sub (aa HZ).2 bg;have HF:=ab (h5.done (t:=ar (dx S)) (c:=80) (by rw[aa HI,fw];show []++[32,58]++k5 ByteArray.empty S.al++k5 ⟨#[83]⟩ S.ye++k5 ⟨#[70]⟩ S.no=_;simp) (by omega))
  clear h5 bg gr H4 c23;go_wp2_with fail;go_end0;exact⟨rfl,aa HF⟩
end Go.Proofs.YtlmnjbipfacniaaGreatDoor
namespace Go.Proofs
open Go.Shelf Go.RowKit Go.Lib
def Tryz.lays156_ren:Go.Shelf.Ren:=⟨fun | 156=>44 | 165=>81 | 166=>82 | 169=>83 | 240=>129 | 241=>130 | 276=>145 | 277=>146 | n=>n,fun | 31=>28 | 9=>9 | 3=>3 | 4=>4 | 0=>0 | 20=>20 | 72=>133 | 76=>136 | 70=>131 | 37=>48 | 75=>135 | 127=>167 | 164=>179 | 5=>5 | 80=>106 | n=>n,fun | n=>n⟩
theorem Tryz.lays156:Go.Proofs.Lays.n156 Tryz.prog Tryz.lays156_ren:={
 mixed:=by kernel_rfl
 f156:=Tryz.func44.trans (congrArg some (by kernel_rfl))
 f165:=Tryz.func81.trans (congrArg some (by kernel_rfl))
 f166:=Tryz.func82.trans (congrArg some (by kernel_rfl))
 f169:=Tryz.func83.trans (congrArg some (by kernel_rfl))
 f240:=Tryz.func129.trans (congrArg some (by kernel_rfl))
 f241:=Tryz.func130.trans (congrArg some (by kernel_rfl))
 f276:=Tryz.func145.trans (congrArg some (by kernel_rfl))
 f277:=Tryz.func146.trans (congrArg some (by kernel_rfl))
 t0:=Tryz.underlying0
 a0:=Tryz.isAgg0
 z0:=Tryz.sizeOf0
 v0:=Tryz.zeroValue0
 t3:=Tryz.underlying3
 a3:=Tryz.isAgg3
 z3:=Tryz.sizeOf3
 v3:=Tryz.zeroValue3
 t4:=Tryz.underlying4
 a4:=Tryz.isAgg4
 z4:=Tryz.sizeOf4
 v4:=Tryz.zeroValue4
 t9:=Tryz.underlying9
 a9:=Tryz.isAgg9
 z9:=Tryz.sizeOf9
 v9:=Tryz.zeroValue9
 t20:=Tryz.underlying20
 a20:=Tryz.isAgg20
 z20:=Tryz.sizeOf20
 v20:=Tryz.zeroValue20
 t31:=Tryz.underlying28
 a31:=Tryz.isAgg28
 z31:=Tryz.sizeOf28
 v31:=Tryz.zeroValue28
 t37:=Tryz.underlying48
 a37:=Tryz.isAgg48
 z37:=Tryz.sizeOf48
 v37:=Tryz.zeroValue48
 t70:=Tryz.underlying131
 a70:=Tryz.isAgg131
 z70:=Tryz.sizeOf131
 v70:=Tryz.zeroValue131
 t72:=Tryz.underlying133
 a72:=Tryz.isAgg133
 z72:=Tryz.sizeOf133
 v72:=Tryz.zeroValue133
 t75:=Tryz.underlying135
 a75:=Tryz.isAgg135
 z75:=Tryz.sizeOf135
 v75:=Tryz.zeroValue135
 t76:=Tryz.underlying136
 a76:=Tryz.isAgg136
 z76:=Tryz.sizeOf136
 v76:=Tryz.zeroValue136
 t127:=Tryz.underlying167
 a127:=Tryz.isAgg167
 z127:=Tryz.sizeOf167
 v127:=Tryz.zeroValue167
 t164:=Tryz.underlying179
 a164:=Tryz.isAgg179
 z164:=Tryz.sizeOf179
 v164:=Tryz.zeroValue179}
theorem Tryz.Builder_Extra_156:Builder.Extra Tryz.prog Tryz.lays156_ren:={
 sizeBuilder:=by kernel_rfl
 liesBuilder:=by kernel_rfl
 t5:=Tryz.underlying5
 a5:=Tryz.isAgg5
 z5:=Tryz.sizeOf5
 v5:=Tryz.zeroValue5
 infoByte:=by kernel_rfl
 cellsByte:=by kernel_rfl
 sizeByte:=by kernel_rfl
 neB5:=by decide}
theorem Tryz.strings_Join_none (a:Option Addr) (c:Nat) (sep:ByteArray) (w:World):
  Calls Tryz.prog 44 #[.slice a 0 c,.string sep] w fun e w'=>e=.returned (.string ⟨#[]⟩)∧w'=w:=Any.strings_Join_none Tryz.lays156 Tryz.Builder_Extra_156 a c sep w
theorem Tryz.strings_Join (bk o c:Nat) (xs:List ByteArray) (sep:ByteArray) (w:World) (hcells:∀(j:Nat) x,xs[j]? =some x→w.cell? ⟨bk,o+j,none⟩=some (.string x)) (hbk:bk < w.heap.size) (hN:xs.length≤140737488355328) (hcap:xs.length≤c) (hlen:(Lib.join (xs.map (·.data.toList)) sep.data.toList).length≤140737488355328):
  Calls Tryz.prog 44 #[.slice (some ⟨bk,o,none⟩) xs.length c,.string sep] w fun e w'=>e=.returned (.string ⟨(Lib.join (xs.map (·.data.toList)) sep.data.toList).toArray⟩)∧Below w.heap.size w w':=Any.strings_Join Tryz.lays156 Tryz.Builder_Extra_156 bk o c xs sep w hcells hbk hN hcap hlen
end Go.Proofs
