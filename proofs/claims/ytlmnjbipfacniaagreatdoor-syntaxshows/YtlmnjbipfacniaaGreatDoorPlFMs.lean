/- Statements that are written are read, plain. Lines that are -/
import Derived.Test.YtlmnjbipfacniaaGreatDoorRegionSinkMs
import Derived.Test.YtlmnjbipfacniaaGreatDoorStCMs
namespace Go.Proofs.YtlmnjbipfacniaaGreatDoor
open Go.RowKit
theorem qJ {t:ByteArray} (h:t.size=0):t=ByteArray.empty:=by
 apply ByteArray.ext;exact Array.eq_empty_of_size_eq_zero h
def fj:List ByteArray→List It
 | []=>[]
 | [x]=>[wd x]
 | x::y::r=>wd x::sg 44::fj (y::r)
def my (when_:List It) (t:ByteArray):List It:=if t.size=0 then [] else when_++(sg 40::wd t::[sg 41])
def dx (S:SV):List It:=if S.al.size=0∧S.ye.size=0∧S.no.size=0 then [] else bl::sg 58::(my [] S.al++(my [wd (ah 83)] S.ye++my [wd (ah 70)] S.no))
def td (S:SV):It:=pa ⟨S.pa.txt.toArray⟩
def iA (S:SV):List It:=
 if S.k=2 then bl::S.va.exI
 else if S.k=3 then bl::(S.tg.exI++(bl::sg 61::bl::S.va.exI))
 else if S.k=4 then bl::(S.va.exI++(bl::sg 63::bl::[td S]))
 else if S.k=5 then bl::(S.tg.exI++(bl::sg 63::bl::td S::bl::sg 61::bl::S.va.exI))
 else if S.k=6 then bl::wd S.nm::bl::df::bl::[td S]
 else if S.k=7 then bl::wd mZ::bl::wd S.nm::sg 40::(fj S.ps.l++(sg 41::(fj S.ls.l++(bl::[wd S.en]))))
 else []
def bT (S:SV):List It:=(if S.lab.size=0 then [] else [wd S.lab])++(iA S++dx S)
def SV.bst (S:SV):SV:=⟨S.lab,S.k,if S.k=3∨S.k=5 then S.tg.bex else PT.nul,if S.k=2∨S.k=3∨S.k=4∨S.k=5 then S.va.bex else PT.nul,if S.k=4∨S.k=5∨S.k=6 then S.pa.bar else PT.nul,
 if S.k=6∨S.k=7 then S.nm else ByteArray.empty,if S.k=7 then S.en else ByteArray.empty,fA (if S.k=7 then S.ps.l else []),fA (if S.k=7 then S.ls.l else []),S.al,S.ye,S.no⟩
def Ao (E:Nat) (r:List Tk):Prop:=(ak E 0 r).k≠1∧aL (ak E 0 r) ju=false
def Sec (E:Nat) (l:List Tk):Prop:=(ak E 0 l).k=1→Ao E l.tail
theorem vW {E:Nat} (b:UInt8) (a:Nat) (l:List Tk):Ao E (⟨5,ah b,a⟩::l):=⟨(by decide:(5:Nat)≠1),MS b a⟩
theorem zK {E:Nat}:∀T:PT,T.badX=0→∀i r,Ao E r→Sec E (bj i T.exI++r):=PT.ind fun T ih hb i r hr=>by
 obtain⟨he,rd⟩:=iK hb;obtain⟨⟨k1,tF⟩, -,hN,dm,hl,hm⟩:=oK he;have hc:T.k=1∨T.k=2∨T.k=3∨T.k=4∨T.k=5∨T.k=6∨T.k=7∨8≤T.k:=by omega
 rcases hc with h | h | h | h | h | h | h | h
 ·have hI:T.exI=[tx T.t]:=by rw[T.exI_eq,h];rfl
  rw[hI];exact fun q=>absurd q (by decide:(3:Nat)≠1)
 ·have hI:T.exI=[nu ⟨(Lib.itoa T.n).toArray⟩]:=by rw[T.exI_eq,h];rfl
  rw[hI];exact fun q=>absurd q (by decide:(2:Nat)≠1)
 ·have hI:T.exI=[wd T.nm]:=by rw[T.exI_eq,h];rfl
  rw[hI];exact fun _=>hr
 ·have hI:T.exI=wd T.nm::sg 60::(T.kidI 0 0++[sg 62]):=by rw[T.exI_eq,h];rfl
  rw[hI];exact fun _=>vW 60 _ _
 ·have hI:T.exI=sg 36::T.kidI 5 0:=by rw[T.exI_eq,h];rfl
  rw[hI];exact fun q=>absurd q (by decide:(5:Nat)≠1)
 ·have hI:T.exI=wd T.nm::sg 40::(i6 (T.kidI 0) T.len++[sg 41]):=by rw[T.exI_eq,h];rfl
  rw[hI];exact fun _=>vW 40 _ _
 ·have hI:T.exI=sg 45::T.kidI 4 0:=by rw[T.exI_eq,h];rfl
  rw[hI];exact fun q=>absurd q (by decide:(5:Nat)≠1)
 ·have h2:bE T.k=2∧bF T.k=2:=by
   have:T.k=8∨T.k=9∨T.k=10∨T.k=11∨T.k=12∨T.k=13:=by omega
   rcases this with h | h | h | h | h | h <;> rw[h] <;> exact⟨rfl,rfl⟩
  rw[zT h (by omega),mr,mx,gu,fT]
  by_cases q:bs (T.kid 0).k < bs T.k
  ·rw[yi q];exact fun q=>absurd q (by decide:(5:Nat)≠1)
  ·rw[wY q];exact ih 0 (by omega) (rd 0 (by omega)) i _ (vW _ _ _)
theorem ft {T:PT} (h:T.wrongX=0):T.fits=true∧T.badX=0:=by
 unfold PT.wrongX at h
 by_cases hf:T.fits=true
 ·rw[af hf] at h;exact⟨hf,h⟩
 ·rw[ac hf] at h;omega
theorem Lu {T:PT} (h:T.fits=true):T.dep≤200:=by
 unfold PT.fits at h;rw[uM] at h;exact nf h.2
theorem yx {E:Nat} {T:PT} (h:T.wrongX=0) (hn:T.ns) (i:Nat) (r:List Tk) (hc:Cnd E 1 r):exS E 400 (bj i T.exI++r)=.ok (T.bex,r):=by
 obtain⟨hf,hb⟩:=ft h;have hd:=Lu hf;exact(xZ T hb hn).any (d:=400) (by omega) i r hc
def tn (r:List Tk):Prop:=r=[]∨∃a l,r=⟨5,ah 58,a⟩::l
section
variable {E:Nat} {r:List Tk}
theorem tn.cnd (h:tn r):Cnd E 1 r:=by
 rcases h with rfl | ⟨a,l,rfl⟩
 ·exact M1
 ·exact wg rfl (by decide) (by decide) _ _ (by omega)
theorem tn.not (h:tn r) {b:UInt8} (hb:(58:UInt8)≠b):aL (ak E 0 r) (ah b)=false:=by
 rcases h with rfl | ⟨a,l,rfl⟩
 ·exact jq (by decide)
 ·exact(fH 58 b a).trans (db hb)
theorem tn.sec (h:tn r):Ao E r:=by
 rcases h with rfl | ⟨a,l,rfl⟩
 ·exact⟨(by decide:(0:Nat)≠1),jq (by decide)⟩
 ·exact vW 58 a l
end
theorem FH {E:Nat} {T:PT} (h:T.wrong=0) (hl:T.txt.length≤65536) (a:Nat) (r:List Tk):lV E (⟨4,⟨T.txt.toArray⟩,a⟩::r)=.ok (T.bar,r):=by
 obtain⟨j,hj⟩:=KJ h hl;unfold lV;show (if (4:Nat)=4 then (match j2 ⟨T.txt.toArray⟩ with | Except.ok x=>Except.ok (x.1,r) | Except.error e=>_) else _)=_
 rw[af rfl,hj]
theorem xm (t s:ByteArray) (a:Nat):fL ⟨1,t,a⟩ s=decide (t=s):=by
 unfold fL;show (true && decide (t=s))=_;rw[Bool.true_and]
theorem Cj {E:Nat} {R:List Tk} (hR:aL (ak E 0 R) (ah 44)=false):∀(L:List ByteArray) (x:ByteArray) (acc:List ByteArray) (f i:Nat),(∀y ∈ x::L,ca y=true)→acc.length+(L.length+1)≤8→L.length < f→
  ja E f acc (bj i (fj (x::L))++R)=.ok (acc++x::L,R)
 | [],x,acc,f,i,hx,hl,hf=>by
  obtain⟨g,rfl⟩:∃g,f=g+1:=⟨f - 1,by simp at hf;omega⟩
  show ja E (g+1) acc (⟨1,x,i⟩::R)=_;rw[ja,uu E (hx x (by simp)),aQ,ac (by simp at hl;omega),ac (by rw[hR];decide)]
 | y::L,x,acc,f,i,hx,hl,hf=>by
  obtain⟨g,rfl⟩:∃g,f=g+1:=⟨f - 1,by omega⟩
  rw[List.length_cons] at hl hf;generalize hj:i+x.data.toList.length=j;show ja E (g+1) acc (⟨1,x,i⟩::(⟨5,ah 44,i+x.data.toList.length⟩::(bj (i+x.data.toList.length+1) (fj (y::L))++R)))=_;rw[hj,ja,uu E (hx x (by simp)),aQ,ac (by omega)]
  show (if aL ⟨5,ah 44,j⟩ (ah 44)=true then ja E g (acc++[x]) (bj (j+1) (fj (y::L))++R) else _)=_;rw[fH,af (by decide),Cj hR L y (acc++[x]) g (j+1) (fun z hz=>hx z (kH _ hz)) (by rw[be,List.length_singleton];omega) (by omega),fT]
  rfl
theorem mW {l:List ByteArray} (h:dH l=0):∀x ∈ l,ca x=true:=by
 unfold dH at h
 by_cases q:l.all ca=true
 ·exact fun x hx=>uN.1 q x hx
 ·rw[ac q] at h;omega
section
variable {E:Nat} {R:List Tk} {i:Nat}
theorem dpS_at {X:List It} {l:List ByteArray} (hn:∀x ∈ l,ca x=true) (h8:l.length≤8):dpS E (bj i (fj l++(sg 41::X))++R)=.ok (l,bj (i+(ar (fj l)).length+1) X++R):=by
 unfold dpS
 cases l with
 | nil=>
  show (if aL ⟨5,ah 41,i⟩ (ah 41)=true then Except.ok ([],bj (i+1) X++R) else _)=_;rw[fH,af (by decide)];rfl
 | cons x L=>
  rw[mr,gu,fT];have h0:aL (ak E 0 (bj i (fj (x::L))++(⟨5,ah 41,i+(ar (fj (x::L))).length⟩::bj (i+(ar (fj (x::L))).length+1) X++R))) (ah 41)=false:=by
   cases L with
   | nil=>exact jq (k:=1) (by decide)
   | cons y L=>exact jq (k:=1) (by decide)
  have hC:∀(a:Nat) (l:List Tk),aL (ak E 0 ((⟨5,ah 41,a⟩:Tk)::l)) (ah 44)=false:=fun a l=>(fH 41 44 a).trans (db (by decide))
  rw[ac (by rw[h0];decide)]
  unfold pX;rw[List.length_cons] at h8;rw[List.cons_append,Cj (hC _ _) L x [] 9 i hn (by simp;omega) (by omega),aQ]
  show aR (ef E (ah 41) (⟨5,ah 41,_⟩::(bj _ X++R))) _=_;rw[uv,aQ];rfl
theorem dlS_at {l:List ByteArray} (hn:∀x ∈ l,ca x=true) (h8:l.length≤8) {en:ByteArray} (hR:tn R):uG E (bj i (fj l++(bl::[wd en]))++R)=.ok (l,⟨1,en,i+(ar (fj l)).length+1⟩::R):=by
 unfold uG
 cases l with
 | nil=>
  show (if (ak E 0 R).k=1∨aL (ak E 0 R) (ah 44)=true then _ else Except.ok ([],⟨1,en,i+1⟩::R))=_;rw[ac]
  ·rfl
  ·rintro(h | h)
   ·exact(hR.sec (E:=E)).1 h
   ·rw[hR.not (by decide)] at h;cases h
 | cons x L=>
  rw[mr,mx,nW,qN,fT];have h0:(ak E 1 (bj i (fj (x::L))++([⟨1,en,i+(ar (fj (x::L))).length+1⟩]++R))).k=1∨aL (ak E 1 (bj i (fj (x::L))++([⟨1,en,i+(ar (fj (x::L))).length+1⟩]++R))) (ah 44)=true:=by
   cases L with
   | nil=>exact .inl rfl
   | cons y L=>exact .inr ((fH 44 44 _).trans (fk rfl))
  rw[af h0];unfold pX;rw[List.length_cons] at h8;have hC:aL (ak E 0 ([(⟨1,en,i+(ar (fj (x::L))).length+1⟩:Tk)]++R)) (ah 44)=false:=jq (k:=1) (by decide)
  rw[Cj hC L x [] 9 i hn (by simp;omega) (by omega)]
  rfl
end
theorem zo {t:ByteArray} (h:m8 t=true) (h0:t.size≠0):ca t=true:=by
 unfold m8 at h;rw[Bool.or_eq_true] at h;rcases h with h | h
 ·rw[lW] at h
  exact absurd (by have:=xC.1 h;have:=aD List.length this;simpa using this) h0
 ·exact h
theorem isEmpty_iff (t:ByteArray):t.toList.isEmpty=decide (t.size=0):=by
 rw[lW]
 by_cases h:t.size=0
 ·rw[fk h,xC]
  exact kG (by simpa using h)
 ·rw[db h,←Bool.not_eq_true,xC]
  intro q;exact h (by have:=aD List.length q;simpa using this)
theorem yl {E i:Nat} {t:ByteArray} (hn:ca t=true) (r:List Tk):j1 E (⟨5,ah 40,i⟩::⟨1,t,i+1⟩::⟨5,ah 41,i+1+t.data.toList.length⟩::r)=.ok (t,r):=by
 unfold j1;rw[uv,aQ,uu E hn,aQ,uv,aQ]
structure WayOK (S:SV):Prop where
 lab:S.lab.size≠0→ca S.lab=true
 al:S.al.size≠0→ca S.al=true
 ye:S.ye.size≠0→ca S.ye=true
 no:S.no.size≠0→ca S.no=true
 one:S.al.size≠0→S.ye.size=0∧S.no.size=0
theorem qE {S:SV} (h:S.wrong=0):WayOK S∧S.kndE=0:=by
 unfold SV.wrong at h
 by_cases h1:S.lbl.all m8=true
 ·rw[af h1] at h
  have ha:∀t ∈ S.lbl,m8 t=true:=uN.1 h1
  by_cases h2:S.al.toList.isEmpty=false∧(S.ye.toList.isEmpty=false∨S.no.toList.isEmpty=false)
  ·rw[af h2] at h;omega
  ·rw[ac h2] at h
   rw[isEmpty_iff,isEmpty_iff,isEmpty_iff] at h2;refine⟨⟨zo (ha _ (by simp[SV.lbl])),zo (ha _ (by simp[SV.lbl])),zo (ha _ (by simp[SV.lbl])),zo (ha _ (by simp[SV.lbl])),fun q=> ?_⟩,h⟩
   have hy:¬(S.ye.size≠0∨S.no.size≠0):=fun z=>h2 ⟨db q,z.elim (fun z=>.inl (db z)) fun z=>.inr (db z)⟩
   omega
 ·rw[ac h1] at h;omega
theorem KD {i:Nat} (S:SV):tn (bj i (dx S)):=by
 unfold dx;split
 ·exact .inl rfl
 ·exact .inr ⟨_,_,rfl⟩
theorem wyS_at {E i:Nat} {S P:SV} (h:WayOK S) (pa:P.al=ByteArray.empty) (py:P.ye=ByteArray.empty) (pn:P.no=ByteArray.empty):fZ E P (bj i (dx S))=.ok ({P with al:=S.al,ye:=S.ye,no:=S.no},[]):=by
 obtain⟨plab,pk,ptg,pva,ppa,pnm,pen,pps,pls,pal,pye,pno⟩:=P;subst pa py pn
 by_cases ha:S.al.size=0
 ·by_cases hy:S.ye.size=0
  ·by_cases hn:S.no.size=0
   ·rw[show dx S=[] from af ⟨ha,hy,hn⟩,qJ ha,qJ hy,qJ hn];rfl
   ·have e:dx S=bl::sg 58::wd (ah 70)::sg 40::wd S.no::[sg 41]:=by
     unfold dx my;rw[ac (fun z=>hn z.2.2),af ha,af hy,ac hn];rfl
    rw[e,mx,gu,nW,gu,nW,gu,qN,qJ ha,qJ hy];unfold fZ;show (if aL ⟨5,ah 58,i+1⟩ (ah 58)=true then (if aL ⟨1,ah 70,i+1+1⟩ (ah 40)=true then _ else if fL ⟨1,ah 70,i+1+1⟩ (ah 83)=true then _ else m5 E false _ (⟨1,ah 70,i+1+1⟩::_)) else _)=_;rw[fH,af (by decide),jq (by decide),ac (by decide),xm,ac (by decide)]
    unfold m5;show (if fL ⟨1,ah 70,i+1+1⟩ (ah 70)=true then aR (j1 E (⟨5,ah 40,_⟩::⟨1,S.no,_⟩::⟨5,ah 41,_⟩::[])) _ else _)=_;rw[xm,af (by decide),yl (h.no hn),aQ]
  ·by_cases hn:S.no.size=0
   ·have e:dx S=bl::sg 58::wd (ah 83)::sg 40::wd S.ye::[sg 41]:=by
     unfold dx my;rw[ac (fun z=>hy z.2.1),af ha,ac hy,af hn];rfl
    rw[e,mx,gu,nW,gu,nW,gu,qN,qJ ha,qJ hn];unfold fZ;show (if aL ⟨5,ah 58,i+1⟩ (ah 58)=true then (if aL ⟨1,ah 83,i+1+1⟩ (ah 40)=true then _ else if fL ⟨1,ah 83,i+1+1⟩ (ah 83)=true then aR (j1 E (⟨5,ah 40,_⟩::⟨1,S.ye,_⟩::⟨5,ah 41,_⟩::[])) _ else _) else _)=_;rw[fH,af (by decide),jq (by decide),ac (by decide),xm,af (by decide),yl (h.ye hy),aQ]
    rfl
   ·have e:dx S=bl::sg 58::wd (ah 83)::sg 40::wd S.ye::sg 41::wd (ah 70)::sg 40::wd S.no::[sg 41]:=by
     unfold dx my;rw[ac (fun z=>hn z.2.2),af ha,ac hy,ac hn];rfl
    rw[e,mx,gu,nW,gu,nW,gu,nW,gu,nW,gu,qN,qJ ha];unfold fZ;show (if aL ⟨5,ah 58,i+1⟩ (ah 58)=true then (if aL ⟨1,ah 83,i+1+1⟩ (ah 40)=true then _ else if fL ⟨1,ah 83,i+1+1⟩ (ah 83)=true then aR (j1 E (⟨5,ah 40,_⟩::⟨1,S.ye,_⟩::⟨5,ah 41,_⟩::⟨1,ah 70,_⟩::⟨5,ah 40,_⟩::⟨1,S.no,_⟩::⟨5,ah 41,_⟩::[])) _ else _) else _)=_;rw[fH,af (by decide),jq (by decide),ac (by decide),xm,af (by decide),yl (h.ye hy),aQ]
    unfold m5;show (if fL ⟨1,ah 70,_⟩ (ah 70)=true then aR (j1 E (⟨5,ah 40,_⟩::⟨1,S.no,_⟩::⟨5,ah 41,_⟩::[])) _ else _)=_;rw[xm,af (by decide),yl (h.no hn),aQ]
 ·have hy:=(h.one ha).1
  have hn:=(h.one ha).2;have e:dx S=bl::sg 58::sg 40::wd S.al::[sg 41]:=by
   unfold dx my;rw[ac (fun z=>ha z.1),ac ha,af hy,af hn];rfl
  rw[e,mx,gu,gu,nW,gu,qN,qJ hy,qJ hn];unfold fZ;show (if aL ⟨5,ah 58,i+1⟩ (ah 58)=true then (if aL ⟨5,ah 40,i+1+1⟩ (ah 40)=true then aR (j1 E (⟨5,ah 40,_⟩::⟨1,S.al,_⟩::⟨5,ah 41,_⟩::[])) _ else _) else _)=_;rw[fH,af (by decide),fH,af (by decide),yl (h.al ha),aQ]
open Go.RowKit
def Nq (l:List UInt8):Prop:=∀x ∈ l,x≠39∧x≠93
theorem BZ:∀(l:List UInt8),Nq l→∀s i,At s i l→cb s i=cb s (i+l.length)
 | [],_,s,i,_=>rfl
 | x::l,h,s,i,ha=>by
  have hx:=h x (by simp)
  have h0:=ha.head;rw[Bn h0.2 (fun e=>hx.1 (tp.1 (h0.1.symm.trans e))) (fun e=>hx.2 (tp.1 (h0.1.symm.trans e))),BZ l (fun y hy=>h y (kH _ hy)) s (i+1) ha.tail,List.length_cons]
  congr 1;omega
theorem yo {l:List UInt8} (h:Nq l):ld l:=fun s i ha _=>BZ l h s i ha
theorem z8 {a b:List UInt8} (h:Nq a) (k:ld b):ld (a++b):=fun s i ha hn=>by
 rw[be] at hn ⊢;rw[←Nat.add_assoc] at hn ⊢;rw[BZ a h s i ha.left];exact k s _ ha.right hn
theorem zW {a b:List UInt8} (h:ld a) (k:ld b) (hb:∃c r,b=c::r∧c≠39):ld (a++b):=fun s i ha hn=>by
 obtain⟨c,r,e,hc⟩:=hb;have h0:=ha.right;rw[e] at h0;rw[be] at hn ⊢;rw[←Nat.add_assoc] at hn ⊢;rw[h s i ha.left (fun q=>hc (tp.1 (h0.head.1.symm.trans q)))]
 exact k s _ ha.right hn
theorem DB (t:List UInt8):ld (et t):=fun s i ha hn=>by
 have bU:(et t).length=(t.flatMap fun c=>if c=39 then [39,39] else [c]).length+2:=by unfold et;simp
 have gm:aj s i=39:=ha.head.1;have h2:At s (i+1) ((t.flatMap fun c=>if c=39 then [39,39] else [c])++[39]):=ha.tail
 have hq:=yz t (i+1) h2 (by rw[show i+1+(t.flatMap fun c=>if c=39 then [39,39] else [c]).length+1=i+(et t).length by omega];exact hn)
 rw[Bm gm,hq.1]
 congr 1;omega
theorem Fd:ld []:=fun _ _ _ _=>rfl
theorem EP {l:List UInt8} (h:∀x ∈ l,dB x.toNat=true):Nq l:=fun x hx=>by
 have:=h x hx;constructor
 ·rintro rfl;exact absurd this (by decide)
 ·rintro rfl;exact absurd this (by decide)
theorem mV {c:UInt8} {l:List UInt8} (h1:c≠39) (h2:c≠93) (h:Nq l):Nq (c::l):=fun x hx=>by
 rcases dO.1 hx with rfl | q
 ·exact⟨h1,h2⟩
 ·exact h x q
theorem xl:Nq []:=fun x hx=>by cases hx
theorem zV {l:List UInt8} (h:ld l):ld (40::l++[41]):=
 z8 (a:=[40]) (mV (by decide) (by decide) xl) (zW h (yo (mV (by decide) (by decide) xl)) ⟨41,[],rfl,by decide⟩)
theorem Bi {sep:List UInt8} (hs:Nq sep) (lP:sep≠[]) (f:Nat→List UInt8):∀n,(∀i,i < n→ld (f i))→ld (iy sep f n)
 | 0,_=>Fd
 | n+1,h=>by
  have ih:=Bi hs lP f n fun i hi=>h i (by omega)
  rw[iy,fT]
  by_cases q:0 < n
  ·rw[af q]
   refine zW ih (z8 hs (h n (by omega))) ?_
   cases sep with
   | nil=>exact absurd rfl lP
   | cons c r=>exact⟨c,r++f n,rfl,(hs c (by simp)).1⟩
  ·obtain rfl:n=0:=by omega
   rw[ac q];exact h 0 (by omega)
theorem ML (n:Int):Nq (Lib.itoa n):=by
 have hd:∀u,Nq (Lib.decDigits u):=fun u x hx=>by
  have:=zt (u+1) u (by omega) x hx
  constructor
  ·rintro rfl;exact absurd this (by decide)
  ·rintro rfl;exact absurd this (by decide)
 unfold Lib.itoa;split
 ·exact mV (by decide) (by decide) (hd _)
 ·exact hd _
theorem BC {t:ByteArray} (h:ca t=true):Nq t.data.toList:=EP (mq h).1
theorem EQ {n:ByteArray} {l:List UInt8} (hl:Nq l) (h:ca n=true):ld (l++n.data.toList):=z8 hl (yo (BC h))
theorem M2:∀T:PT,T.bad=0→ld T.txt:=PT.ind fun T ih aA=>by
 obtain⟨he,hk⟩:=fG aA;obtain⟨k1,k24,ht,hn,dm,eN,jz⟩:=jo he;have ihk:∀i,i < T.len→ld (T.kidT i):=fun i hi=>by
  unfold PT.kidT rZ;split
  ·exact zV (ih i hi (hk i hi))
  ·exact ih i hi (hk i hi)
 rw[T.txt_eq k1]
 by_cases h1:T.k=1
 ·rw[af h1];exact DB _
 ·rw[ac h1]
  by_cases h8:T.k=18
  ·rw[af h8];exact Bi (mV (by decide) (by decide) xl) (by simp) _ _ ihk
  ·rw[ac h8]
   by_cases h9:T.k=19
   ·rw[af h9];exact Bi (mV (by decide) (by decide) (mV (by decide) (by decide) (mV (by decide) (by decide) xl))) (by simp) _ _ ihk
   ·rw[ac h9]
    by_cases h21:T.k=21∨T.k=22
    ·have kL:T.len=1:=by
      have a:cM T.k=1:=by unfold cM;rw[ac (by omega),af (by omega)]
      have b:cK T.k=1:=by unfold cK;rw[ac (by omega),af (by omega)]
      omega
     have hh:aO T.k=3:=by unfold aO;rw[ac (by omega),ac (by omega),af (by omega)]
     have hj:ld (iy [] T.kidT T.len):=by
      rw[kL];exact ihk 0 (by omega)
     rcases h21 with h21 | h22
     ·rw[af h21,fT]
      exact zW hj (EQ (mV (by decide) (by decide) (mV (by decide) (by decide) (mV (by decide) (by decide) xl))) (dm hh)) ⟨32,_,rfl,by decide⟩
     ·rw[ac (by omega),af h22,fT]
      exact zW hj (EQ (mV (by decide) (by decide) (mV (by decide) (by decide) (mV (by decide) (by decide) xl))) (dm hh)) ⟨32,_,rfl,by decide⟩
    ·rw[ac (by omega),ac (by omega)]
     by_cases h23:T.k=23
     ·have hh:aO T.k=3:=by unfold aO;rw[ac (by omega),ac (by omega),af (by omega)]
      rw[af h23];exact yo (mV (by decide) (by decide) (BC (dm hh)))
     ·rw[ac h23]
      by_cases h24:T.k=24
      ·have hh:aO T.k=3:=by unfold aO;rw[ac (by omega),ac (by omega),af (by omega)]
       rw[af h24];exact yo (mV (by decide) (by decide) (BC (dm hh)))
      ·rw[ac h24]
       refine z8 (EP (De T.k.toNat (by omega)).1) ?_
       split
       ·exact zV (yo (ML _))
       ·split
        ·exact zV (DB _)
        ·split
         ·rename_i jD
          have kL:0 < T.len:=by
           have b:cK T.k=1:=by unfold cK;rw[ac (by omega),af (by omega)]
           omega
          exact zV (ih 0 kL (hk 0 kL))
         ·exact Fd
def rW (c:Nat):Prop:=dB c=false∧c≠39
theorem Ku {c:Nat} (h:rW c):cR c=false:=by
 have:=h.1;unfold dB at this;rw[Bool.or_eq_false_iff] at this;exact this.2
section
variable {c:Nat} {l:List It}
theorem sep_0 {t:ByteArray}:tm ⟨0,t⟩ c:=⟨fun q=>absurd (show (0:Nat)=1 from q) (by decide),fun q=>absurd (show (0:Nat)=2 from q) (by decide),fun q=>absurd (show (0:Nat)=3 from q) (by decide),fun q=>absurd (show (0:Nat)=5 from q) (by decide)⟩
theorem sep_1 {t:ByteArray} (h:dB c=false):tm ⟨1,t⟩ c:=⟨fun _=>h,fun q=>absurd (show (1:Nat)=2 from q) (by decide),fun q=>absurd (show (1:Nat)=3 from q) (by decide),fun q=>absurd (show (1:Nat)=5 from q) (by decide)⟩
theorem sep_2 {t:ByteArray} (h:cR c=false):tm ⟨2,t⟩ c:=⟨fun q=>absurd (show (2:Nat)=1 from q) (by decide),fun _=>h,fun q=>absurd (show (2:Nat)=3 from q) (by decide),fun q=>absurd (show (2:Nat)=5 from q) (by decide)⟩
theorem sep_3 {t:ByteArray} (h:c≠39):tm ⟨3,t⟩ c:=⟨fun q=>absurd (show (3:Nat)=1 from q) (by decide),fun q=>absurd (show (3:Nat)=2 from q) (by decide),fun _=>h,fun q=>absurd (show (3:Nat)=5 from q) (by decide)⟩
theorem sep_4 {t:ByteArray}:tm ⟨4,t⟩ c:=⟨fun q=>absurd (show (4:Nat)=1 from q) (by decide),fun q=>absurd (show (4:Nat)=2 from q) (by decide),fun q=>absurd (show (4:Nat)=3 from q) (by decide),fun q=>absurd (show (4:Nat)=5 from q) (by decide)⟩
theorem Ci {t:ByteArray} (h:t=ah 58→c≠61):tm ⟨5,t⟩ c:=⟨fun q=>absurd (show (5:Nat)=1 from q) (by decide),fun q=>absurd (show (5:Nat)=2 from q) (by decide),fun q=>absurd (show (5:Nat)=3 from q) (by decide),fun _ q=>h q⟩
theorem mY:Gd c []:=trivial
theorem jJ (h:Gd c l):Gd c (bl::l):=⟨.inl rfl,sep_0,h⟩
theorem kX {b:UInt8} (hb:uA b.toNat=true) (vo:b≠58) (h:Gd c l):Gd c (sg b::l):=
 ⟨.inr (.inr (.inr (.inr (.inr ⟨rfl,.inr ⟨b,rfl,hb⟩⟩)))),Ci fun q=>absurd (EA q) vo,h⟩
theorem pR {t:ByteArray} (ht:ca t=true) (hn:dB (im c l)=false) (h:Gd c l):Gd c (wd t::l):=by
 obtain⟨h1, -,h2⟩:=mq ht;exact⟨.inr (.inl ⟨rfl,h1,h2⟩),sep_1 hn,h⟩
theorem zI {b:UInt8} (h:dB b.toNat=false) (h2:b≠39):rW (im c (sg b::l)):=⟨h,fun e=>h2 (tp.1 e)⟩
theorem zJ:rW (im c (bl::l)):=⟨(by decide:dB 32=false),(by decide:(32:Nat)≠39)⟩
end
def GdX (T:PT):Prop:=∀c,rW c→Gd c T.exI
theorem B7 {T:PT} (h:GdX T) (lv:Int) {c:Nat} (hc:rW c):Gd c (T.atl lv):=by
 by_cases q:bs T.k < lv
 ·rw[yi q]
  exact kX (by decide) (by decide) (mu (kX (by decide) (by decide) mY) (h _ (zI (by decide) (by decide))))
 ·rw[wY q];exact h c hc
theorem E3 {f:Nat→List It}:∀n,(∀i,i < n→∀c,rW c→Gd c (f i))→∀c,rW c→Gd c (i6 f n)
 | 0,_,c,_=>trivial
 | n+1,h,c,hc=>by
  have ih:=E3 n fun i hi=>h i (by omega)
  rw[i6]
  by_cases q:0 < n
  ·rw[af q]
   exact mu (kX (by decide) (by decide) (jJ (h n (by omega) c hc))) (ih _ (zI (by decide) (by decide)))
  ·obtain rfl:n=0:=by omega
   rw[ac q];exact h 0 (by omega) c hc
theorem gd_nu {n:Int} (h0:0≤n) {c:Nat} (hc:rW c):Gd c [nu ⟨(Lib.itoa n).toArray⟩]:=by
 have e:Lib.itoa n=Lib.decDigits n.toNat:=by unfold Lib.itoa;rw[ac (by omega)]
 have hd:=zt (n.toNat+1) n.toNat (by omega)
 have hl:=E9 n.toNat;refine⟨.inr (.inr (.inl ⟨rfl, ?_, ?_⟩)),sep_2 (Ku hc),mY⟩
 ·intro x hx
  have hx:x ∈ (Lib.itoa n).toArray.toList:=hx;rw[e] at hx;exact hd x (by simpa using hx)
 ·show ∃c r,(Lib.itoa n).toArray.toList=c::r
  rw[e]
  cases q:Lib.decDigits n.toNat with
  | nil=>rw[q] at hl;exact absurd hl (by decide)
  | cons a r=>exact⟨a,r,rfl⟩
theorem xn:∀T:PT,T.badX=0→GdX T:=PT.ind fun T ih hb c hc=>by
 obtain⟨he,rd⟩:=iK hb;obtain⟨⟨k1,tF⟩, -,hN,dm,hl,hm⟩:=oK he;have hK:∀lv i,i < T.len→∀c,rW c→Gd c (T.kidI lv i):=fun lv i hi c hc=>by rw[qM hi];exact B7 (ih i hi (rd i hi)) lv hc
 have jg:T.k=1∨T.k=2∨T.k=3∨T.k=4∨T.k=5∨T.k=6∨T.k=7∨8≤T.k:=by omega
 rcases jg with h | h | h | h | h | h | h | h
 ·have hI:T.exI=[tx T.t]:=by rw[T.exI_eq,h];rfl
  rw[hI];exact⟨.inr (.inr (.inr (.inl rfl))),sep_3 hc.2,mY⟩
 ·have hI:T.exI=[nu ⟨(Lib.itoa T.n).toArray⟩]:=by rw[T.exI_eq,h];rfl
  rw[hI];exact gd_nu (hN h) hc
 ·have hI:T.exI=[wd T.nm]:=by rw[T.exI_eq,h];rfl
  rw[h] at dm;rw[hI];exact pR (dm rfl) hc.1 mY
 ·have hI:T.exI=wd T.nm::sg 60::(T.kidI 0 0++[sg 62]):=by rw[T.exI_eq,h];rfl
  rw[h] at dm hl;have h1:0 < T.len:=by have:bF 4=1:=rfl;omega
  rw[hI];exact pR (dm rfl) (by decide:dB 60=false) (kX (by decide) (by decide) (mu (kX (by decide) (by decide) mY) (hK 0 0 h1 _ (zI (by decide) (by decide)))))
 ·have hI:T.exI=sg 36::T.kidI 5 0:=by rw[T.exI_eq,h];rfl
  rw[h] at hl;have h1:0 < T.len:=by have:bF 5=1:=rfl;omega
  rw[hI];exact kX (by decide) (by decide) (hK 5 0 h1 c hc)
 ·have hI:T.exI=wd T.nm::sg 40::(i6 (T.kidI 0) T.len++[sg 41]):=by rw[T.exI_eq,h];rfl
  rw[h] at dm;rw[hI];exact pR (dm rfl) (by decide:dB 40=false) (kX (by decide) (by decide) (mu (kX (by decide) (by decide) mY) (E3 T.len (hK 0) _ (zI (by decide) (by decide)))))
 ·have hI:T.exI=sg 45::T.kidI 4 0:=by rw[T.exI_eq,h];rfl
  rw[h] at hl;have h1:0 < T.len:=by have:bF 7=1:=rfl;omega
  rw[hI];exact kX (by decide) (by decide) (hK 4 0 h1 c hc)
 ·have h2:bE T.k=2∧bF T.k=2:=by
   have:T.k=8∨T.k=9∨T.k=10∨T.k=11∨T.k=12∨T.k=13:=by omega
   rcases this with h | h | h | h | h | h <;> rw[h] <;> exact⟨rfl,rfl⟩
  obtain⟨L,l1,l3,hl,K,eK,hb,hv,vn,n60,n40,n58,hsn⟩:=EN h tF;rw[zT h (by omega)]
  exact mu (jJ (kX hsn n58 (jJ (B7 (ih 1 (by omega) (rd 1 (by omega))) _ hc)))) (B7 (ih 0 (by omega) (rd 0 (by omega))) _ zJ)
theorem Bd {c:Nat} (hc:dB c=false):∀l:List ByteArray,(∀x ∈ l,ca x=true)→Gd c (fj l)
 | [],_=>trivial
 | [x],h=>pR (h x (by simp)) hc mY
 | x::y::r,h=>pR (h x (by simp)) (by decide:dB 44=false) (kX (by decide) (by decide) (Bd hc (y::r) fun z hz=>h z (kH _ hz)))
theorem B6 {c:Nat} {w:List It} {t:ByteArray} (ht:t.size≠0→ca t=true) (hw:Gd 40 w):Gd c (my w t):=by
 unfold my;split
 ·trivial
 ·rename_i h
  exact mu (b:=sg 40::wd t::[sg 41]) (kX (by decide) (by decide) (pR (ht h) (by decide:dB 41=false) (kX (by decide) (by decide) mY))) hw
theorem BR {c:Nat} {w:List It} {t:ByteArray} (hw:im 40 w≠61) (hc:c≠61):im c (my w t)≠61:=by
 unfold my;split
 ·exact hc
 ·rw[zQ];exact hw
theorem Dz {b:UInt8} (h:ca (ah b)=true):Gd 40 [wd (ah b)]:=pR h (by decide:dB 40=false) mY
theorem MW {S:SV} (h:WayOK S):Gd 0 (dx S):=by
 unfold dx;split
 ·trivial
 ·have hb:Gd 0 (my [] S.al++(my [wd (ah 83)] S.ye++my [wd (ah 70)] S.no)):=
   mu (mu (B6 h.no (Dz (by decide))) (B6 h.ye (Dz (by decide)))) (B6 h.al mY)
  refine jJ ⟨.inr (.inr (.inr (.inr (.inr ⟨rfl,.inr ⟨58,rfl,by decide⟩⟩)))),Ci fun _=> ?_,hb⟩
  rw[zQ,zQ];exact BR (by decide:(40:Nat)≠61) (BR (by decide:im 40 [wd (ah 83)]≠61) (BR (by decide:im 40 [wd (ah 70)]≠61) (by decide)))
theorem Bs (S:SV):im 0 (dx S)=0∨im 0 (dx S)=32:=by
 unfold dx;split
 ·exact .inl rfl
 ·exact .inr rfl
theorem Cl {c:Nat} {l:List It} {T:PT} (hT:T.bad=0) (h:Gd c l):Gd c (pa ⟨T.txt.toArray⟩::l):=
 ⟨.inr (.inr (.inr (.inr (.inl ⟨rfl,by show ld T.txt.toArray.toList;exact M2 T hT⟩)))),sep_4,h⟩
theorem gd_df {c:Nat} {l:List It} (h:Gd c l):Gd c (df::l):=
 ⟨.inr (.inr (.inr (.inr (.inr ⟨rfl,.inl rfl⟩)))),Ci fun q=>absurd (show (2:Nat)=1 from aD ByteArray.size q) (by decide),h⟩
end Go.Proofs.YtlmnjbipfacniaaGreatDoor
