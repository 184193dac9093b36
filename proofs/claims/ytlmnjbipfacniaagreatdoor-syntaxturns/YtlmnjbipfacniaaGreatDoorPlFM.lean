/- Statements that are written are read, plain. Lines that are -/
import Derived.Test.YtlmnjbipfacniaaGreatDoorStCM
namespace Go.Proofs.YtlmnjbipfacniaaGreatDoor
open Go.RowKit
theorem qn {t:ByteArray} (h:t.size=0):t=ByteArray.empty:=by
 apply ByteArray.ext;exact Array.eq_empty_of_size_eq_zero h
def fD:List ByteArray→List It
 | []=>[]
 | [x]=>[wd x]
 | x::y::r=>wd x::sg 44::fD (y::r)
def mz (when_:List It) (t:ByteArray):List It:=if t.size=0 then [] else when_++(sg 40::wd t::[sg 41])
def dG (S:SV):List It:=if S.al.size=0∧S.ye.size=0∧S.no.size=0 then [] else bl::sg 58::(mz [] S.al++(mz [wd (ah 83)] S.ye++mz [wd (ah 70)] S.no))
def sU (S:SV):It:=pa ⟨S.pa.txt.toArray⟩
def iM (S:SV):List It:=
 if S.k=2 then bl::S.va.exI
 else if S.k=3 then bl::(S.tg.exI++(bl::sg 61::bl::S.va.exI))
 else if S.k=4 then bl::(S.va.exI++(bl::sg 63::bl::[sU S]))
 else if S.k=5 then bl::(S.tg.exI++(bl::sg 63::bl::sU S::bl::sg 61::bl::S.va.exI))
 else if S.k=6 then bl::wd S.nm::bl::df::bl::[sU S]
 else if S.k=7 then bl::wd mZ::bl::wd S.nm::sg 40::(fD S.ps.l++(sg 41::(fD S.ls.l++(bl::[wd S.en]))))
 else []
def cj (S:SV):List It:=(if S.lab.size=0 then [] else [wd S.lab])++(iM S++dG S)
def SV.bst (S:SV):SV:=⟨S.lab,S.k,if S.k=3∨S.k=5 then S.tg.bex else PT.nul,if S.k=2∨S.k=3∨S.k=4∨S.k=5 then S.va.bex else PT.nul,if S.k=4∨S.k=5∨S.k=6 then S.pa.bar else PT.nul,
 if S.k=6∨S.k=7 then S.nm else ByteArray.empty,if S.k=7 then S.en else ByteArray.empty,dj (if S.k=7 then S.ps.l else []),dj (if S.k=7 then S.ls.l else []),S.al,S.ye,S.no⟩
def Aw (E:Nat) (r:List Tk):Prop:=(ak E 0 r).k≠1∧aM (ak E 0 r) jF=false
def Sec (E:Nat) (l:List Tk):Prop:=(ak E 0 l).k=1→Aw E l.tail
theorem vW {E:Nat} (b:UInt8) (a:Nat) (l:List Tk):Aw E (⟨5,ah b,a⟩::l):=⟨(by decide:(5:Nat)≠1),Nm b a⟩
theorem zQ {E:Nat}:∀T:PT,T.badX=0→∀i r,Aw E r→Sec E (bs i T.exI++r):=PT.ind fun T ih hb i r hr=>by
 obtain⟨he,qM⟩:=iV hb;obtain⟨⟨k1,tG⟩, -,hN,dq,hl,hm⟩:=oz he;have hc:T.k=1∨T.k=2∨T.k=3∨T.k=4∨T.k=5∨T.k=6∨T.k=7∨8≤T.k:=by omega
 rcases hc with h | h | h | h | h | h | h | h
 ·have hI:T.exI=[tx T.t]:=by rw[T.exI_eq,h];rfl
  rw[hI];exact fun q=>absurd q (by decide:(3:Nat)≠1)
 ·have hI:T.exI=[nu ⟨(Lib.itoa T.n).toArray⟩]:=by rw[T.exI_eq,h];rfl
  rw[hI];exact fun q=>absurd q (by decide:(2:Nat)≠1)
 ·have hI:T.exI=[wd T.nm]:=by rw[T.exI_eq,h];rfl
  rw[hI];exact fun _=>hr
 ·have hI:T.exI=wd T.nm::sg 60::(T.kidI 0 0++[sg 62]):=by rw[T.exI_eq,h];rfl
  rw[hI];exact fun _=>vW 60 _ _
 ·have hI:T.exI=sg 36::T.kidI 5 0:=by rw[T.exI_eq,h];rfl
  rw[hI];exact fun q=>absurd q (by decide:(5:Nat)≠1)
 ·have hI:T.exI=wd T.nm::sg 40::(jm (T.kidI 0) T.len++[sg 41]):=by rw[T.exI_eq,h];rfl
  rw[hI];exact fun _=>vW 40 _ _
 ·have hI:T.exI=sg 45::T.kidI 4 0:=by rw[T.exI_eq,h];rfl
  rw[hI];exact fun q=>absurd q (by decide:(5:Nat)≠1)
 ·have h2:bF T.k=2∧bG T.k=2:=by
   have:T.k=8∨T.k=9∨T.k=10∨T.k=11∨T.k=12∨T.k=13:=by omega
   rcases this with h | h | h | h | h | h <;> rw[h] <;> exact⟨rfl,rfl⟩
  rw[zZ h (by omega),mt,my,gD,gg]
  by_cases q:bB (T.kid 0).k < bB T.k
  ·rw[yo q];exact fun q=>absurd q (by decide:(5:Nat)≠1)
  ·rw[wU q];exact ih 0 (by omega) (qM 0 (by omega)) i _ (vW _ _ _)
theorem fG {T:PT} (h:T.wrongX=0):T.fits=true∧T.badX=0:=by
 unfold PT.wrongX at h
 by_cases hf:T.fits=true
 ·rw[af hf] at h;exact⟨hf,h⟩
 ·rw[ac hf] at h;omega
theorem LX {T:PT} (h:T.fits=true):T.dep≤200:=by
 unfold PT.fits at h;rw[tj] at h;exact mG h.2
theorem yD {E:Nat} {T:PT} (h:T.wrongX=0) (hn:T.ns) (i:Nat) (r:List Tk) (hc:Cnd E 1 r):uM E 400 (bs i T.exI++r)=.ok (T.bex,r):=by
 obtain⟨hf,hb⟩:=fG h;have hd:=LX hf;exact(yg T hb hn).any (d:=400) (by omega) i r hc
def td (r:List Tk):Prop:=r=[]∨∃a l,r=⟨5,ah 58,a⟩::l
section
variable {E:Nat} {r:List Tk}
theorem td.cnd (h:td r):Cnd E 1 r:=by
 rcases h with rfl | ⟨a,l,rfl⟩
 ·exact Nv
 ·exact we rfl (by decide) (by decide) _ _ (by omega)
theorem td.not (h:td r) {b:UInt8} (hb:(58:UInt8)≠b):aM (ak E 0 r) (ah b)=false:=by
 rcases h with rfl | ⟨a,l,rfl⟩
 ·exact jz (by decide)
 ·exact(fS 58 b a).trans (dh hb)
theorem td.sec (h:td r):Aw E r:=by
 rcases h with rfl | ⟨a,l,rfl⟩
 ·exact⟨(by decide:(0:Nat)≠1),jz (by decide)⟩
 ·exact vW 58 a l
end
theorem F4 {E:Nat} {T:PT} (h:T.wrong=0) (hl:T.txt.length≤65536) (a:Nat) (r:List Tk):lE E (⟨4,⟨T.txt.toArray⟩,a⟩::r)=.ok (T.bar,r):=by
 obtain⟨j,hj⟩:=Lh h hl;unfold lE;show (if (4:Nat)=4 then (match jq ⟨T.txt.toArray⟩ with | Except.ok x=>Except.ok (x.1,r) | Except.error e=>_) else _)=_
 rw[af rfl,hj]
theorem xi (t s:ByteArray) (a:Nat):fW ⟨1,t,a⟩ s=decide (t=s):=by
 unfold fW;show (true && decide (t=s))=_;rw[Bool.true_and]
theorem CF {E:Nat} {R:List Tk} (hR:aM (ak E 0 R) (ah 44)=false):∀(L:List ByteArray) (x:ByteArray) (acc:List ByteArray) (f i:Nat),(∀y ∈ x::L,bp y=true)→acc.length+(L.length+1)≤8→L.length < f→
  iN E f acc (bs i (fD (x::L))++R)=.ok (acc++x::L,R)
 | [],x,acc,f,i,hx,hl,hf=>by
  obtain⟨g,rfl⟩:∃g,f=g+1:=⟨f - 1,by simp at hf;omega⟩
  show iN E (g+1) acc (⟨1,x,i⟩::R)=_;rw[iN,uD E (hx x (by simp)),aT,ac (by simp at hl;omega),ac (by rw[hR];decide)]
 | y::L,x,acc,f,i,hx,hl,hf=>by
  obtain⟨g,rfl⟩:∃g,f=g+1:=⟨f - 1,by omega⟩
  rw[List.length_cons] at hl hf;generalize hj:i+x.data.toList.length=j;show iN E (g+1) acc (⟨1,x,i⟩::(⟨5,ah 44,i+x.data.toList.length⟩::(bs (i+x.data.toList.length+1) (fD (y::L))++R)))=_;rw[hj,iN,uD E (hx x (by simp)),aT,ac (by omega)]
  show (if aM ⟨5,ah 44,j⟩ (ah 44)=true then iN E g (acc++[x]) (bs (j+1) (fD (y::L))++R) else _)=_;rw[fS,af (by decide),CF hR L y (acc++[x]) g (j+1) (fun z hz=>hx z (lY _ hz)) (by rw[bg,List.length_singleton];omega) (by omega),gg]
  rfl
theorem mU {l:List ByteArray} (h:cV l=0):∀x ∈ l,bp x=true:=by
 unfold cV at h
 by_cases q:l.all bp=true
 ·exact fun x hx=>rQ.1 q x hx
 ·rw[ac q] at h;omega
section
variable {E:Nat} {R:List Tk} {i:Nat}
theorem dpS_at {X:List It} {l:List ByteArray} (hn:∀x ∈ l,bp x=true) (h8:l.length≤8):uP E (bs i (fD l++(sg 41::X))++R)=.ok (l,bs (i+(ar (fD l)).length+1) X++R):=by
 unfold uP
 cases l with
 | nil=>
  show (if aM ⟨5,ah 41,i⟩ (ah 41)=true then Except.ok ([],bs (i+1) X++R) else _)=_;rw[fS,af (by decide)];rfl
 | cons x L=>
  rw[mt,gD,gg];have h0:aM (ak E 0 (bs i (fD (x::L))++(⟨5,ah 41,i+(ar (fD (x::L))).length⟩::bs (i+(ar (fD (x::L))).length+1) X++R))) (ah 41)=false:=by
   cases L with
   | nil=>exact jz (k:=1) (by decide)
   | cons y L=>exact jz (k:=1) (by decide)
  have hC:∀(a:Nat) (l:List Tk),aM (ak E 0 ((⟨5,ah 41,a⟩:Tk)::l)) (ah 44)=false:=fun a l=>(fS 41 44 a).trans (dh (by decide))
  rw[ac (by rw[h0];decide)]
  unfold oH;rw[List.length_cons] at h8;rw[List.cons_append,CF (hC _ _) L x [] 9 i hn (by simp;omega) (by omega),aT]
  show aR (ee E (ah 41) (⟨5,ah 41,_⟩::(bs _ X++R))) _=_;rw[uE,aT];rfl
theorem dlS_at {l:List ByteArray} (hn:∀x ∈ l,bp x=true) (h8:l.length≤8) {en:ByteArray} (hR:td R):sZ E (bs i (fD l++(bl::[wd en]))++R)=.ok (l,⟨1,en,i+(ar (fD l)).length+1⟩::R):=by
 unfold sZ
 cases l with
 | nil=>
  show (if (ak E 0 R).k=1∨aM (ak E 0 R) (ah 44)=true then _ else Except.ok ([],⟨1,en,i+1⟩::R))=_;rw[ac]
  ·rfl
  ·rintro(h | h)
   ·exact(hR.sec (E:=E)).1 h
   ·rw[hR.not (by decide)] at h;cases h
 | cons x L=>
  rw[mt,my,nM,qs,gg];have h0:(ak E 1 (bs i (fD (x::L))++([⟨1,en,i+(ar (fD (x::L))).length+1⟩]++R))).k=1∨aM (ak E 1 (bs i (fD (x::L))++([⟨1,en,i+(ar (fD (x::L))).length+1⟩]++R))) (ah 44)=true:=by
   cases L with
   | nil=>exact .inl rfl
   | cons y L=>exact .inr ((fS 44 44 _).trans (eW rfl))
  rw[af h0];unfold oH;rw[List.length_cons] at h8;have hC:aM (ak E 0 ([(⟨1,en,i+(ar (fD (x::L))).length+1⟩:Tk)]++R)) (ah 44)=false:=jz (k:=1) (by decide)
  rw[CF hC L x [] 9 i hn (by simp;omega) (by omega)]
  rfl
end
theorem zu {t:ByteArray} (h:lV t=true) (h0:t.size≠0):bp t=true:=by
 unfold lV at h;rw[Bool.or_eq_true] at h;rcases h with h | h
 ·rw[m7] at h
  exact absurd (by have:=xD.1 h;have:=aJ List.length this;simpa using this) h0
 ·exact h
theorem isEmpty_iff (t:ByteArray):t.toList.isEmpty=decide (t.size=0):=by
 rw[m7]
 by_cases h:t.size=0
 ·rw[eW h,xD]
  exact kJ (by simpa using h)
 ·rw[dh h,←Bool.not_eq_true,xD]
  intro q;exact h (by have:=aJ List.length q;simpa using this)
theorem yr {E i:Nat} {t:ByteArray} (hn:bp t=true) (r:List Tk):jS E (⟨5,ah 40,i⟩::⟨1,t,i+1⟩::⟨5,ah 41,i+1+t.data.toList.length⟩::r)=.ok (t,r):=by
 unfold jS;rw[uE,aT,uD E hn,aT,uE,aT]
structure WayOK (S:SV):Prop where
 lab:S.lab.size≠0→bp S.lab=true
 al:S.al.size≠0→bp S.al=true
 ye:S.ye.size≠0→bp S.ye=true
 no:S.no.size≠0→bp S.no=true
 one:S.al.size≠0→S.ye.size=0∧S.no.size=0
theorem qi {S:SV} (h:S.wrong=0):WayOK S∧S.kndE=0:=by
 unfold SV.wrong at h
 by_cases h1:S.lbl.all lV=true
 ·rw[af h1] at h
  have ha:∀t ∈ S.lbl,lV t=true:=rQ.1 h1
  by_cases h2:S.al.toList.isEmpty=false∧(S.ye.toList.isEmpty=false∨S.no.toList.isEmpty=false)
  ·rw[af h2] at h;omega
  ·rw[ac h2] at h
   rw[isEmpty_iff,isEmpty_iff,isEmpty_iff] at h2;refine⟨⟨zu (ha _ (by simp[SV.lbl])),zu (ha _ (by simp[SV.lbl])),zu (ha _ (by simp[SV.lbl])),zu (ha _ (by simp[SV.lbl])),fun q=> ?_⟩,h⟩
   have hy:¬(S.ye.size≠0∨S.no.size≠0):=fun z=>h2 ⟨dh q,z.elim (fun z=>.inl (dh z)) fun z=>.inr (dh z)⟩
   omega
 ·rw[ac h1] at h;omega
theorem Lb {i:Nat} (S:SV):td (bs i (dG S)):=by
 unfold dG;split
 ·exact .inl rfl
 ·exact .inr ⟨_,_,rfl⟩
theorem wyS_at {E i:Nat} {S P:SV} (h:WayOK S) (pa:P.al=ByteArray.empty) (py:P.ye=ByteArray.empty) (pn:P.no=ByteArray.empty):ge E P (bs i (dG S))=.ok ({P with al:=S.al,ye:=S.ye,no:=S.no},[]):=by
 obtain⟨plab,pk,ptg,pva,ppa,pnm,pen,pps,pls,pal,pye,pno⟩:=P;subst pa py pn
 by_cases ha:S.al.size=0
 ·by_cases hy:S.ye.size=0
  ·by_cases hn:S.no.size=0
   ·rw[show dG S=[] from af ⟨ha,hy,hn⟩,qn ha,qn hy,qn hn];rfl
   ·have e:dG S=bl::sg 58::wd (ah 70)::sg 40::wd S.no::[sg 41]:=by
     unfold dG mz;rw[ac (fun z=>hn z.2.2),af ha,af hy,ac hn];rfl
    rw[e,my,gD,nM,gD,nM,gD,qs,qn ha,qn hy];unfold ge;show (if aM ⟨5,ah 58,i+1⟩ (ah 58)=true then (if aM ⟨1,ah 70,i+1+1⟩ (ah 40)=true then _ else if fW ⟨1,ah 70,i+1+1⟩ (ah 83)=true then _ else mA E false _ (⟨1,ah 70,i+1+1⟩::_)) else _)=_;rw[fS,af (by decide),jz (by decide),ac (by decide),xi,ac (by decide)]
    unfold mA;show (if fW ⟨1,ah 70,i+1+1⟩ (ah 70)=true then aR (jS E (⟨5,ah 40,_⟩::⟨1,S.no,_⟩::⟨5,ah 41,_⟩::[])) _ else _)=_;rw[xi,af (by decide),yr (h.no hn),aT]
  ·by_cases hn:S.no.size=0
   ·have e:dG S=bl::sg 58::wd (ah 83)::sg 40::wd S.ye::[sg 41]:=by
     unfold dG mz;rw[ac (fun z=>hy z.2.1),af ha,ac hy,af hn];rfl
    rw[e,my,gD,nM,gD,nM,gD,qs,qn ha,qn hn];unfold ge;show (if aM ⟨5,ah 58,i+1⟩ (ah 58)=true then (if aM ⟨1,ah 83,i+1+1⟩ (ah 40)=true then _ else if fW ⟨1,ah 83,i+1+1⟩ (ah 83)=true then aR (jS E (⟨5,ah 40,_⟩::⟨1,S.ye,_⟩::⟨5,ah 41,_⟩::[])) _ else _) else _)=_;rw[fS,af (by decide),jz (by decide),ac (by decide),xi,af (by decide),yr (h.ye hy),aT]
    rfl
   ·have e:dG S=bl::sg 58::wd (ah 83)::sg 40::wd S.ye::sg 41::wd (ah 70)::sg 40::wd S.no::[sg 41]:=by
     unfold dG mz;rw[ac (fun z=>hn z.2.2),af ha,ac hy,ac hn];rfl
    rw[e,my,gD,nM,gD,nM,gD,nM,gD,nM,gD,qs,qn ha];unfold ge;show (if aM ⟨5,ah 58,i+1⟩ (ah 58)=true then (if aM ⟨1,ah 83,i+1+1⟩ (ah 40)=true then _ else if fW ⟨1,ah 83,i+1+1⟩ (ah 83)=true then aR (jS E (⟨5,ah 40,_⟩::⟨1,S.ye,_⟩::⟨5,ah 41,_⟩::⟨1,ah 70,_⟩::⟨5,ah 40,_⟩::⟨1,S.no,_⟩::⟨5,ah 41,_⟩::[])) _ else _) else _)=_;rw[fS,af (by decide),jz (by decide),ac (by decide),xi,af (by decide),yr (h.ye hy),aT]
    unfold mA;show (if fW ⟨1,ah 70,_⟩ (ah 70)=true then aR (jS E (⟨5,ah 40,_⟩::⟨1,S.no,_⟩::⟨5,ah 41,_⟩::[])) _ else _)=_;rw[xi,af (by decide),yr (h.no hn),aT]
 ·have hy:=(h.one ha).1
  have hn:=(h.one ha).2;have e:dG S=bl::sg 58::sg 40::wd S.al::[sg 41]:=by
   unfold dG mz;rw[ac (fun z=>ha z.1),ac ha,af hy,af hn];rfl
  rw[e,my,gD,gD,nM,gD,qs,qn hy,qn hn];unfold ge;show (if aM ⟨5,ah 58,i+1⟩ (ah 58)=true then (if aM ⟨5,ah 40,i+1+1⟩ (ah 40)=true then aR (jS E (⟨5,ah 40,_⟩::⟨1,S.al,_⟩::⟨5,ah 41,_⟩::[])) _ else _) else _)=_;rw[fS,af (by decide),fS,af (by decide),yr (h.al ha),aT]
open Go.RowKit
def Nq (l:List UInt8):Prop:=∀x ∈ l,x≠39∧x≠93
theorem Cf:∀(l:List UInt8),Nq l→∀s i,At s i l→cb s i=cb s (i+l.length)
 | [],_,s,i,_=>rfl
 | x::l,h,s,i,ha=>by
  have hx:=h x (by simp)
  have h0:=ha.head;rw[BD h0.2 (fun e=>hx.1 (tm.1 (h0.1.symm.trans e))) (fun e=>hx.2 (tm.1 (h0.1.symm.trans e))),Cf l (fun y hy=>h y (lY _ hy)) s (i+1) ha.tail,List.length_cons]
  congr 1;omega
theorem yu {l:List UInt8} (h:Nq l):k6 l:=fun s i ha _=>Cf l h s i ha
theorem Ag {a b:List UInt8} (h:Nq a) (k:k6 b):k6 (a++b):=fun s i ha hn=>by
 rw[bg] at hn ⊢;rw[←Nat.add_assoc] at hn ⊢;rw[Cf a h s i ha.left];exact k s _ ha.right hn
theorem z8 {a b:List UInt8} (h:k6 a) (k:k6 b) (hb:∃c r,b=c::r∧c≠39):k6 (a++b):=fun s i ha hn=>by
 obtain⟨c,r,e,hc⟩:=hb;have h0:=ha.right;rw[e] at h0;rw[bg] at hn ⊢;rw[←Nat.add_assoc] at hn ⊢;rw[h s i ha.left (fun q=>hc (tm.1 (h0.head.1.symm.trans q)))]
 exact k s _ ha.right hn
theorem DT (t:List UInt8):k6 (eC t):=fun s i ha hn=>by
 have cM:(eC t).length=(t.flatMap fun c=>if c=39 then [39,39] else [c]).length+2:=by unfold eC;simp
 have gy:aj s i=39:=ha.head.1;have h2:At s (i+1) ((t.flatMap fun c=>if c=39 then [39,39] else [c])++[39]):=ha.tail
 have hq:=yE t (i+1) h2 (by rw[show i+1+(t.flatMap fun c=>if c=39 then [39,39] else [c]).length+1=i+(eC t).length by omega];exact hn)
 rw[BC gy,hq.1]
 congr 1;omega
theorem FA:k6 []:=fun _ _ _ _=>rfl
theorem E9 {l:List UInt8} (h:∀x ∈ l,dF x.toNat=true):Nq l:=fun x hx=>by
 have:=h x hx;constructor
 ·rintro rfl;exact absurd this (by decide)
 ·rintro rfl;exact absurd this (by decide)
theorem mT {c:UInt8} {l:List UInt8} (h1:c≠39) (h2:c≠93) (h:Nq l):Nq (c::l):=fun x hx=>by
 rcases dU.1 hx with rfl | q
 ·exact⟨h1,h2⟩
 ·exact h x q
theorem xh:Nq []:=fun x hx=>by cases hx
theorem z7 {l:List UInt8} (h:k6 l):k6 (40::l++[41]):=
 Ag (a:=[40]) (mT (by decide) (by decide) xh) (z8 h (yu (mT (by decide) (by decide) xh)) ⟨41,[],rfl,by decide⟩)
theorem By {sep:List UInt8} (hs:Nq sep) (lN:sep≠[]) (f:Nat→List UInt8):∀n,(∀i,i < n→k6 (f i))→k6 (iJ sep f n)
 | 0,_=>FA
 | n+1,h=>by
  have ih:=By hs lN f n fun i hi=>h i (by omega)
  rw[iJ,gg]
  by_cases q:0 < n
  ·rw[af q]
   refine z8 ih (Ag hs (h n (by omega))) ?_
   cases sep with
   | nil=>exact absurd rfl lN
   | cons c r=>exact⟨c,r++f n,rfl,(hs c (by simp)).1⟩
  ·obtain rfl:n=0:=by omega
   rw[ac q];exact h 0 (by omega)
theorem Nd (n:Int):Nq (Lib.itoa n):=by
 have hd:∀u,Nq (Lib.decDigits u):=fun u x hx=>by
  have:=zA (u+1) u (by omega) x hx
  constructor
  ·rintro rfl;exact absurd this (by decide)
  ·rintro rfl;exact absurd this (by decide)
 unfold Lib.itoa;split
 ·exact mT (by decide) (by decide) (hd _)
 ·exact hd _
theorem BT {t:ByteArray} (h:bp t=true):Nq t.data.toList:=E9 (ms h).1
theorem Fa {n:ByteArray} {l:List UInt8} (hl:Nq l) (h:bp n=true):k6 (l++n.data.toList):=Ag hl (yu (BT h))
theorem Nw:∀T:PT,T.bad=0→k6 T.txt:=PT.ind fun T ih aA=>by
 obtain⟨he,hk⟩:=fR aA;obtain⟨k1,k24,ht,hn,dq,eI,gX⟩:=jy he;have ihk:∀i,i < T.len→k6 (T.kidT i):=fun i hi=>by
  unfold PT.kidT rL;split
  ·exact z7 (ih i hi (hk i hi))
  ·exact ih i hi (hk i hi)
 rw[T.txt_eq k1]
 by_cases h1:T.k=1
 ·rw[af h1];exact DT _
 ·rw[ac h1]
  by_cases h8:T.k=18
  ·rw[af h8];exact By (mT (by decide) (by decide) xh) (by simp) _ _ ihk
  ·rw[ac h8]
   by_cases h9:T.k=19
   ·rw[af h9];exact By (mT (by decide) (by decide) (mT (by decide) (by decide) (mT (by decide) (by decide) xh))) (by simp) _ _ ihk
   ·rw[ac h9]
    by_cases h21:T.k=21∨T.k=22
    ·have kO:T.len=1:=by
      have a:cD T.k=1:=by unfold cD;rw[ac (by omega),af (by omega)]
      have b:co T.k=1:=by unfold co;rw[ac (by omega),af (by omega)]
      omega
     have hh:aE T.k=3:=by unfold aE;rw[ac (by omega),ac (by omega),af (by omega)]
     have hj:k6 (iJ [] T.kidT T.len):=by
      rw[kO];exact ihk 0 (by omega)
     rcases h21 with h21 | h22
     ·rw[af h21,gg]
      exact z8 hj (Fa (mT (by decide) (by decide) (mT (by decide) (by decide) (mT (by decide) (by decide) xh))) (dq hh)) ⟨32,_,rfl,by decide⟩
     ·rw[ac (by omega),af h22,gg]
      exact z8 hj (Fa (mT (by decide) (by decide) (mT (by decide) (by decide) (mT (by decide) (by decide) xh))) (dq hh)) ⟨32,_,rfl,by decide⟩
    ·rw[ac (by omega),ac (by omega)]
     by_cases h23:T.k=23
     ·have hh:aE T.k=3:=by unfold aE;rw[ac (by omega),ac (by omega),af (by omega)]
      rw[af h23];exact yu (mT (by decide) (by decide) (BT (dq hh)))
     ·rw[ac h23]
      by_cases h24:T.k=24
      ·have hh:aE T.k=3:=by unfold aE;rw[ac (by omega),ac (by omega),af (by omega)]
       rw[af h24];exact yu (mT (by decide) (by decide) (BT (dq hh)))
      ·rw[ac h24]
       refine Ag (E9 (Dz T.k.toNat (by omega)).1) ?_
       split
       ·exact z7 (yu (Nd _))
       ·split
        ·exact z7 (DT _)
        ·split
         ·rename_i ju
          have kO:0 < T.len:=by
           have b:co T.k=1:=by unfold co;rw[ac (by omega),af (by omega)]
           omega
          exact z7 (ih 0 kO (hk 0 kO))
         ·exact FA
def rG (c:Nat):Prop:=dF c=false∧c≠39
theorem KW {c:Nat} (h:rG c):cW c=false:=by
 have:=h.1;unfold dF at this;rw[Bool.or_eq_false_iff] at this;exact this.2
section
variable {c:Nat} {l:List It}
theorem sep_0 {t:ByteArray}:tc ⟨0,t⟩ c:=⟨fun q=>absurd (show (0:Nat)=1 from q) (by decide),fun q=>absurd (show (0:Nat)=2 from q) (by decide),fun q=>absurd (show (0:Nat)=3 from q) (by decide),fun q=>absurd (show (0:Nat)=5 from q) (by decide)⟩
theorem sep_1 {t:ByteArray} (h:dF c=false):tc ⟨1,t⟩ c:=⟨fun _=>h,fun q=>absurd (show (1:Nat)=2 from q) (by decide),fun q=>absurd (show (1:Nat)=3 from q) (by decide),fun q=>absurd (show (1:Nat)=5 from q) (by decide)⟩
theorem sep_2 {t:ByteArray} (h:cW c=false):tc ⟨2,t⟩ c:=⟨fun q=>absurd (show (2:Nat)=1 from q) (by decide),fun _=>h,fun q=>absurd (show (2:Nat)=3 from q) (by decide),fun q=>absurd (show (2:Nat)=5 from q) (by decide)⟩
theorem sep_3 {t:ByteArray} (h:c≠39):tc ⟨3,t⟩ c:=⟨fun q=>absurd (show (3:Nat)=1 from q) (by decide),fun q=>absurd (show (3:Nat)=2 from q) (by decide),fun _=>h,fun q=>absurd (show (3:Nat)=5 from q) (by decide)⟩
theorem sep_4 {t:ByteArray}:tc ⟨4,t⟩ c:=⟨fun q=>absurd (show (4:Nat)=1 from q) (by decide),fun q=>absurd (show (4:Nat)=2 from q) (by decide),fun q=>absurd (show (4:Nat)=3 from q) (by decide),fun q=>absurd (show (4:Nat)=5 from q) (by decide)⟩
theorem CD {t:ByteArray} (h:t=ah 58→c≠61):tc ⟨5,t⟩ c:=⟨fun q=>absurd (show (5:Nat)=1 from q) (by decide),fun q=>absurd (show (5:Nat)=2 from q) (by decide),fun q=>absurd (show (5:Nat)=3 from q) (by decide),fun _ q=>h q⟩
theorem mX:Gd c []:=trivial
theorem jR (h:Gd c l):Gd c (bl::l):=⟨.inl rfl,sep_0,h⟩
theorem kV {b:UInt8} (hb:uI b.toNat=true) (vr:b≠58) (h:Gd c l):Gd c (sg b::l):=
 ⟨.inr (.inr (.inr (.inr (.inr ⟨rfl,.inr ⟨b,rfl,hb⟩⟩)))),CD fun q=>absurd (EP q) vr,h⟩
theorem pE {t:ByteArray} (ht:bp t=true) (hn:dF (iz c l)=false) (h:Gd c l):Gd c (wd t::l):=by
 obtain⟨h1, -,h2⟩:=ms ht;exact⟨.inr (.inl ⟨rfl,h1,h2⟩),sep_1 hn,h⟩
theorem zO {b:UInt8} (h:dF b.toNat=false) (h2:b≠39):rG (iz c (sg b::l)):=⟨h,fun e=>h2 (tm.1 e)⟩
theorem zP:rG (iz c (bl::l)):=⟨(by decide:dF 32=false),(by decide:(32:Nat)≠39)⟩
end
def GdX (T:PT):Prop:=∀c,rG c→Gd c T.exI
theorem Cn {T:PT} (h:GdX T) (lv:Int) {c:Nat} (hc:rG c):Gd c (T.atl lv):=by
 by_cases q:bB T.k < lv
 ·rw[yo q]
  exact kV (by decide) (by decide) (mw (kV (by decide) (by decide) mX) (h _ (zO (by decide) (by decide))))
 ·rw[wU q];exact h c hc
theorem Fp {f:Nat→List It}:∀n,(∀i,i < n→∀c,rG c→Gd c (f i))→∀c,rG c→Gd c (jm f n)
 | 0,_,c,_=>trivial
 | n+1,h,c,hc=>by
  have ih:=Fp n fun i hi=>h i (by omega)
  rw[jm]
  by_cases q:0 < n
  ·rw[af q]
   exact mw (kV (by decide) (by decide) (jR (h n (by omega) c hc))) (ih _ (zO (by decide) (by decide)))
  ·obtain rfl:n=0:=by omega
   rw[ac q];exact h 0 (by omega) c hc
theorem gd_nu {n:Int} (h0:0≤n) {c:Nat} (hc:rG c):Gd c [nu ⟨(Lib.itoa n).toArray⟩]:=by
 have e:Lib.itoa n=Lib.decDigits n.toNat:=by unfold Lib.itoa;rw[ac (by omega)]
 have hd:=zA (n.toNat+1) n.toNat (by omega)
 have hl:=Fw n.toNat;refine⟨.inr (.inr (.inl ⟨rfl, ?_, ?_⟩)),sep_2 (KW hc),mX⟩
 ·intro x hx
  have hx:x ∈ (Lib.itoa n).toArray.toList:=hx;rw[e] at hx;exact hd x (by simpa using hx)
 ·show ∃c r,(Lib.itoa n).toArray.toList=c::r
  rw[e]
  cases q:Lib.decDigits n.toNat with
  | nil=>rw[q] at hl;exact absurd hl (by decide)
  | cons a r=>exact⟨a,r,rfl⟩
theorem xj:∀T:PT,T.badX=0→GdX T:=PT.ind fun T ih hb c hc=>by
 obtain⟨he,qM⟩:=iV hb;obtain⟨⟨k1,tG⟩, -,hN,dq,hl,hm⟩:=oz he;have hK:∀lv i,i < T.len→∀c,rG c→Gd c (T.kidI lv i):=fun lv i hi c hc=>by rw[qr hi];exact Cn (ih i hi (qM i hi)) lv hc
 have kw:T.k=1∨T.k=2∨T.k=3∨T.k=4∨T.k=5∨T.k=6∨T.k=7∨8≤T.k:=by omega
 rcases kw with h | h | h | h | h | h | h | h
 ·have hI:T.exI=[tx T.t]:=by rw[T.exI_eq,h];rfl
  rw[hI];exact⟨.inr (.inr (.inr (.inl rfl))),sep_3 hc.2,mX⟩
 ·have hI:T.exI=[nu ⟨(Lib.itoa T.n).toArray⟩]:=by rw[T.exI_eq,h];rfl
  rw[hI];exact gd_nu (hN h) hc
 ·have hI:T.exI=[wd T.nm]:=by rw[T.exI_eq,h];rfl
  rw[h] at dq;rw[hI];exact pE (dq rfl) hc.1 mX
 ·have hI:T.exI=wd T.nm::sg 60::(T.kidI 0 0++[sg 62]):=by rw[T.exI_eq,h];rfl
  rw[h] at dq hl;have h1:0 < T.len:=by have:bG 4=1:=rfl;omega
  rw[hI];exact pE (dq rfl) (by decide:dF 60=false) (kV (by decide) (by decide) (mw (kV (by decide) (by decide) mX) (hK 0 0 h1 _ (zO (by decide) (by decide)))))
 ·have hI:T.exI=sg 36::T.kidI 5 0:=by rw[T.exI_eq,h];rfl
  rw[h] at hl;have h1:0 < T.len:=by have:bG 5=1:=rfl;omega
  rw[hI];exact kV (by decide) (by decide) (hK 5 0 h1 c hc)
 ·have hI:T.exI=wd T.nm::sg 40::(jm (T.kidI 0) T.len++[sg 41]):=by rw[T.exI_eq,h];rfl
  rw[h] at dq;rw[hI];exact pE (dq rfl) (by decide:dF 40=false) (kV (by decide) (by decide) (mw (kV (by decide) (by decide) mX) (Fp T.len (hK 0) _ (zO (by decide) (by decide)))))
 ·have hI:T.exI=sg 45::T.kidI 4 0:=by rw[T.exI_eq,h];rfl
  rw[h] at hl;have h1:0 < T.len:=by have:bG 7=1:=rfl;omega
  rw[hI];exact kV (by decide) (by decide) (hK 4 0 h1 c hc)
 ·have h2:bF T.k=2∧bG T.k=2:=by
   have:T.k=8∨T.k=9∨T.k=10∨T.k=11∨T.k=12∨T.k=13:=by omega
   rcases this with h | h | h | h | h | h <;> rw[h] <;> exact⟨rfl,rfl⟩
  obtain⟨L,l1,l3,hl,K,eK,hb,hv,vq,n60,n40,n58,hsn⟩:=E7 h tG;rw[zZ h (by omega)]
  exact mw (jR (kV hsn n58 (jR (Cn (ih 1 (by omega) (qM 1 (by omega))) _ hc)))) (Cn (ih 0 (by omega) (qM 0 (by omega))) _ zP)
theorem Bt {c:Nat} (hc:dF c=false):∀l:List ByteArray,(∀x ∈ l,bp x=true)→Gd c (fD l)
 | [],_=>trivial
 | [x],h=>pE (h x (by simp)) hc mX
 | x::y::r,h=>pE (h x (by simp)) (by decide:dF 44=false) (kV (by decide) (by decide) (Bt hc (y::r) fun z hz=>h z (lY _ hz)))
theorem Cm {c:Nat} {w:List It} {t:ByteArray} (ht:t.size≠0→bp t=true) (hw:Gd 40 w):Gd c (mz w t):=by
 unfold mz;split
 ·trivial
 ·rename_i h
  exact mw (b:=sg 40::wd t::[sg 41]) (kV (by decide) (by decide) (pE (ht h) (by decide:dF 41=false) (kV (by decide) (by decide) mX))) hw
theorem B8 {c:Nat} {w:List It} {t:ByteArray} (hw:iz 40 w≠61) (hc:c≠61):iz c (mz w t)≠61:=by
 unfold mz;split
 ·exact hc
 ·rw[zW];exact hw
theorem DR {b:UInt8} (h:bp (ah b)=true):Gd 40 [wd (ah b)]:=pE h (by decide:dF 40=false) mX
theorem Nr {S:SV} (h:WayOK S):Gd 0 (dG S):=by
 unfold dG;split
 ·trivial
 ·have hb:Gd 0 (mz [] S.al++(mz [wd (ah 83)] S.ye++mz [wd (ah 70)] S.no)):=
   mw (mw (Cm h.no (DR (by decide))) (Cm h.ye (DR (by decide)))) (Cm h.al mX)
  refine jR ⟨.inr (.inr (.inr (.inr (.inr ⟨rfl,.inr ⟨58,rfl,by decide⟩⟩)))),CD fun _=> ?_,hb⟩
  rw[zW,zW];exact B8 (by decide:(40:Nat)≠61) (B8 (by decide:iz 40 [wd (ah 83)]≠61) (B8 (by decide:iz 40 [wd (ah 70)]≠61) (by decide)))
theorem BI (S:SV):iz 0 (dG S)=0∨iz 0 (dG S)=32:=by
 unfold dG;split
 ·exact .inl rfl
 ·exact .inr rfl
theorem CH {c:Nat} {l:List It} {T:PT} (hT:T.bad=0) (h:Gd c l):Gd c (pa ⟨T.txt.toArray⟩::l):=
 ⟨.inr (.inr (.inr (.inr (.inl ⟨rfl,by show k6 T.txt.toArray.toList;exact Nw T hT⟩)))),sep_4,h⟩
theorem gd_df {c:Nat} {l:List It} (h:Gd c l):Gd c (df::l):=
 ⟨.inr (.inr (.inr (.inr (.inr ⟨rfl,.inl rfl⟩)))),CD fun q=>absurd (show (2:Nat)=1 from aJ ByteArray.size q) (by decide),h⟩
end Go.Proofs.YtlmnjbipfacniaaGreatDoor
