/- Lines that are written are cut into tokens: pieces of a line -/
import Derived.Test.YtlmnjbipfacniaaGreatDoorRtAM
import Derived.Test.YtlmnjbipfacniaaGreatDoorPatBelowP
import Derived.Maps.AppendAt
namespace Go.Proofs.YtlmnjbipfacniaaGreatDoor
open Go.RowKit
structure It where
 k:Nat
 t:ByteArray
def bl:It:=⟨0,ByteArray.empty⟩
def wd (t:ByteArray):It:=⟨1,t⟩
def nu (t:ByteArray):It:=⟨2,t⟩
def tx (t:ByteArray):It:=⟨3,t⟩
def pa (t:ByteArray):It:=⟨4,t⟩
def sg (b:UInt8):It:=⟨5,ah b⟩
def df:It:=⟨5,jF⟩
def It.b (x:It):List UInt8:=if x.k=0 then [32] else if x.k=3 then eC x.t.data.toList else if x.k=4 then 91::(x.t.data.toList++[93]) else x.t.data.toList
def k6 (l:List UInt8):Prop:=∀s i,At s i l→aj s (i+l.length)≠39→cb s i=cb s (i+l.length)
def ItOK (x:It):Prop:=
 x.k=0∨(x.k=1∧(∀c ∈ x.t.data.toList,dF c.toNat=true)∧∃c r,x.t.data.toList=c::r∧di c.toNat=true)∨
 (x.k=2∧(∀c ∈ x.t.data.toList,cW c.toNat=true)∧∃c r,x.t.data.toList=c::r)∨x.k=3∨(x.k=4∧k6 x.t.data.toList)∨
 (x.k=5∧(x.t=jF∨∃b:UInt8,x.t=ah b∧uI b.toNat=true))
def tc (x:It) (c:Nat):Prop:=(x.k=1→dF c=false)∧(x.k=2→cW c=false)∧(x.k=3→c≠39)∧(x.k=5→x.t=ah 58→c≠61)
def ar (l:List It):List UInt8:=l.flatMap It.b
theorem dA (x:It) (l:List It):ar (x::l)=x.b++ar l:=rfl
theorem gj (a b:List It):ar (a++b)=ar a++ar b:=List.flatMap_append
def iz (c:Nat) (l:List It):Nat:=match ar l with | []=>c | d::_=>d.toNat
def Gd (c:Nat):List It→Prop
 | []=>True
 | x::l=>ItOK x∧tc x (iz c l)∧Gd c l
theorem zW (c:Nat) (a b:List It):iz c (a++b)=iz (iz c b) a:=by
 unfold iz;rw[gj]
 cases ar a with
 | nil=>rfl
 | cons x r=>rfl
theorem mw {c:Nat} {b:List It} (hb:Gd c b):∀{a:List It},Gd (iz c b) a→Gd c (a++b)
 | [],_=>hb
 | x::a,h=>⟨h.1,by show tc x (iz c (a++b));rw[zW];exact h.2.1,mw hb h.2.2⟩
def bs:Nat→List It→List Tk
 | _,[]=>[]
 | i,x::l=>if x.k=0 then bs (i+1) l else ⟨x.k,x.t,i⟩::bs (i+x.b.length) l
theorem FJ {x:It} (h:x.k=0):x.b=[32]:=af h
theorem mt:∀(a b:List It) (i:Nat),bs i (a++b)=bs i a++bs (i+(ar a).length) b
 | [],b,i=>rfl
 | x::a,b,i=>by
  show (if x.k=0 then bs (i+1) (a++b) else ⟨x.k,x.t,i⟩::bs (i+x.b.length) (a++b))=(if x.k=0 then bs (i+1) a else ⟨x.k,x.t,i⟩::bs (i+x.b.length) a)++_;rw[dA,bg,←Nat.add_assoc]
  by_cases h:x.k=0
  ·rw[af h,af h,mt a b (i+1),FJ h];rfl
  ·rw[ac h,ac h,mt a b (i+x.b.length)];rfl
theorem xN {s t:ByteArray} {i:Nat} (h:At s i t.data.toList):s.extract i (i+t.data.toList.length)=t:=by
 rw[A6 h]
theorem MD {b:Nat} (h:uI b=true):di b=false∧cW b=false∧b≠39∧b≠91∧b≠32∧b≠0:=by
 have h:=List.contains_iff_mem.1 h;simp only[dU,ek,fL] at h;rcases h with h | h | h | h | h | h | h | h | h | h | h | h | h | h | h <;> subst h <;> decide
theorem My {s:ByteArray} {i:Nat} {x:It} (hx:ItOK x) (hk:x.k≠0) (ha:At s i x.b) (hs:tc x (aj s (i+x.b.length))):i < s.size∧aj s i≠32∧tk s i=(x.k,i+x.b.length,x.t):=by
 obtain⟨k,t⟩:=x;rcases hx with h | ⟨h,hw,c,r,hl,hc⟩ | ⟨h,hd,c,r,hl⟩ | h | ⟨h,oe⟩ | ⟨h,l7⟩
 ·exact absurd h hk
 ·have h:k=1:=h
  subst h;have hl:t.data.toList=c::r:=hl;have hw:∀c ∈ t.data.toList,dF c.toNat=true:=hw;have hb:It.b ⟨1,t⟩=t.data.toList:=rfl;rw[hb] at ha hs ⊢;have h0:=ha;rw[hl] at h0;obtain⟨e,au⟩:=h0.head;have eI:di (aj s i)=true:=by rw[e];exact hc
  have hp:dd s dF i=i+t.data.toList.length:=wY t.data.toList.length i (fun k hk=>⟨by have:=ha.le;omega,by rw[ha.get hk];exact hw _ (qz hk)⟩) (hs.1 rfl)
  refine⟨au,fun e2=> ?_, ?_⟩
  ·rw[e2] at eI;exact absurd eI (by decide)
  ·unfold tk
   rw[af eI,hp,xN ha]
 ·have h:k=2:=h
  subst h;have hl:t.data.toList=c::r:=hl;have hd:∀c ∈ t.data.toList,cW c.toNat=true:=hd;have hb:It.b ⟨2,t⟩=t.data.toList:=rfl;rw[hb] at ha hs ⊢;have h0:=ha;rw[hl] at h0;obtain⟨e,au⟩:=h0.head;have hde:cW (aj s i)=true:=by rw[e];exact hd c (by rw[hl];exact uU)
  have hr:=Dc hde;have eI:di (aj s i)=false:=by
   cases q:di (aj s i) with
   | false=>rfl
   | true=>have:=AW q;omega
  have hp:dd s cW i=i+t.data.toList.length:=wY t.data.toList.length i (fun k hk=>⟨by have:=ha.le;omega,by rw[ha.get hk];exact hd _ (qz hk)⟩) (hs.2.1 rfl)
  refine⟨au,by omega, ?_⟩
  unfold tk;rw[ac (by rw[eI];decide),af hde,hp,xN ha]
 ·have h:k=3:=h
  subst h;have hb:It.b ⟨3,t⟩=eC t.data.toList:=rfl;rw[hb] at ha hs ⊢;have cM:(eC t.data.toList).length=(t.data.toList.flatMap fun c=>if c=39 then [39,39] else [c]).length+2:=by unfold eC;simp
  have gy:aj s i=39:=ha.head.1;have h2:At s (i+1) ((t.data.toList.flatMap fun c=>if c=39 then [39,39] else [c])++[39]):=ha.tail
  have hq:=yE t.data.toList (i+1) h2 (by rw[show i+1+(t.data.toList.flatMap fun c=>if c=39 then [39,39] else [c]).length+1=i+(eC t.data.toList).length by omega];exact hs.2.2.1 rfl)
  have eI:=ha.le;refine⟨ha.head.2,by omega, ?_⟩
  unfold tk;rw[gy,ac (by decide),ac (by decide),af rfl,ac (by rw[hq.1];omega),hq.1,hq.2]
  rw[show i+1+(t.data.toList.flatMap fun c=>if c=39 then [39,39] else [c]).length+1=i+(eC t.data.toList).length by omega]
 ·have h:k=4:=h
  subst h;have oe:k6 t.data.toList:=oe;have hb:It.b ⟨4,t⟩=91::(t.data.toList++[93]):=rfl;rw[hb] at ha hs ⊢;have h91:aj s i=91:=ha.head.1;have h2:At s (i+1) (t.data.toList++[93]):=ha.tail;have h93:aj s (i+1+t.data.toList.length)=93:=h2.right.head.1;have hc:=oe s (i+1) h2.left (by omega)
  rw[BZ h93] at hc;have au:=h2.right.head.2;refine⟨ha.head.2,by omega, ?_⟩
  unfold tk;rw[h91,ac (by decide),ac (by decide),ac (by decide),af rfl,hc,ac (by omega),xN h2.left]
  have e:i+1+t.data.toList.length+1=i+(91::(t.data.toList++[93])).length:=by
   rw[List.length_cons,bg,List.length_singleton];omega
  rw[e]
 ·have h:k=5:=h
  subst h;have hb:It.b ⟨5,t⟩=t.data.toList:=rfl;rw[hb] at ha hs ⊢;rcases l7 with l7 | ⟨b,l7,hb1⟩
  ·have l7:t=jF:=l7
   subst l7;have vr:aj s i=58:=ha.head.1;have h61:aj s (i+1)=61:=ha.tail.head.1;refine⟨ha.head.2,by omega, ?_⟩
   have he:=xN ha;have hz:jF.data.toList.length=2:=rfl;rw[hz] at he ⊢;unfold tk;rw[vr,ac (by decide),ac (by decide),ac (by decide),ac (by decide),af ⟨rfl,h61⟩,he]
  ·have l7:t=ah b:=l7
   subst l7;have e0:aj s i=b.toNat:=ha.head.1;have hn:=MD hb1;rw[←e0] at hn hb1;refine⟨ha.head.2,hn.2.2.2.2.1, ?_⟩;have he:=xN ha;have hz:(ah b).data.toList.length=1:=rfl;rw[hz] at he hs ⊢;unfold tk;rw[ac (by rw[hn.1];decide),ac (by rw[hn.2.1];decide),ac hn.2.2.1,ac hn.2.2.2.1,ac,af hb1,he]
   rintro⟨q1,q2⟩;refine hs.2.2.2 rfl ?_ q2;have:b=58:=tm.1 (by rw[←e0,q1];rfl)
   show ah b=ah 58;rw[this]
theorem Br {s:ByteArray}:∀(l:List It) (i:Nat) (acc:List Tk),At s i (ar l)→i+(ar l).length=s.size→Gd 0 l→ln s i acc=(acc++bs i l,0,0)
 | [],i,acc,_,he,_=>by
  have:i=s.size:=he;rw[this,Ci,show bs s.size []=[] from rfl,k9]
 | x::l,i,acc,ha,he,hg=>by
  rw[dA] at ha he;rw[bg] at he;have hr:=ha.right;have hn:aj s (i+x.b.length)=iz 0 l:=by
   unfold iz
   cases hq:ar l with
   | nil=>rw[hq] at he;exact pz s _ (by rw[List.length_nil] at he;omega)
   | cons d r=>rw[hq] at hr;exact hr.head.1
  by_cases hk:x.k=0
  ·have hb:=FJ hk
   rw[hb] at ha hr he;have jd:aj s i=32:=ha.head.1;have ih:=Br l (i+1) acc hr (by rw[List.length_singleton] at he;omega) hg.2.2
   rw[Eo ha.head.2 jd,ih];show _=(acc++(if x.k=0 then bs (i+1) l else _),0,0);rw[af hk]
  ·obtain⟨h1,h2,h3⟩:=My hg.1 hk ha.left (by rw[hn];exact hg.2.1)
   have ih:=Br l (i+x.b.length) (acc++[⟨x.k,x.t,i⟩]) hr (by omega) hg.2.2
   rw[Cg h1 h2 (by rw[h3];exact hk),h3]
   show ln s (i+x.b.length) (acc++[⟨x.k,x.t,i⟩])=_;rw[ih,gg];show _=(acc++(if x.k=0 then _ else ⟨x.k,x.t,i⟩::bs (i+x.b.length) l),0,0);rw[ac hk];rfl
theorem Jm {l:List It} (hl:(ar l).length≤2000) (hg:Gd 0 l):gc ⟨(ar l).toArray⟩=(bs 0 l,0,0):=by
 have hz:(⟨(ar l).toArray⟩:ByteArray).size=(ar l).length:=by show (ar l).toArray.size=_;simp
 unfold gc;rw[hz,ac (by omega),Br l 0 [] (GI _) (by rw[hz];omega) hg]
 rfl
open Go.RowKit
def Le {α:Type} (n:Nat) (R:Sy α):Prop:=∀x r,R=.ok (x,r)→r.length≤n
section
variable {α β:Type} {n:Nat}
theorem Le.err (e:Int × Nat):Le (α:=α) n (.error e):=fun _ _ h=>by cases h
theorem Le.ok {x:α} {r:List Tk} (h:r.length≤n):Le n (.ok (x,r)):=fun _ _ q=>by injection q with q;injection q with _ q;rw[←q];exact h
theorem Le.bind {R:Sy α} {f:α→List Tk→Sy β} (h:Le n R) (k:∀a j,j.length≤n→Le n (f a j)):Le n (aR R f):=fun x r q=>by
 obtain⟨a,j,h1,h2⟩:=D1 q;exact k a j (h a j h1) x r h2
theorem Le.ite {c:Prop} [Decidable c] {a b:Sy α} (h:c→Le n a) (k:¬c→Le n b):Le n (if c then a else b):=by
 split
 ·exact h ‹_›
 ·exact k ‹_›
theorem Le.mono {m:Nat} {R:Sy α} (h:Le n R) (hm:n≤m):Le m R:=fun x r q=>bJ (h x r q) hm
end
theorem qp (l:List Tk):l.tail.length≤l.length:=by rw[List.length_tail];omega
section
variable {E:Nat}
theorem Ai (s:ByteArray) (l:List Tk):Le l.length (ee E s l):=Le.ite (fun _=>Le.ok (qp l)) fun _=>Le.err _
theorem nmS_le (l:List Tk):Le l.length (dO E l):=Le.ite (fun _=>Le.ite (fun _=>Le.ok (qp l)) fun _=>Le.err _) fun _=>Le.err _
theorem nuS_le (l:List Tk):Le l.length (lW E l):=Le.ite (fun _=>Le.err _) fun _=>Le.ite (fun _=>Le.err _) fun _=>Le.ok (qp l)
theorem tmS_le {α:Type} (n:Nat) (l:List Tk):Le n (tmS (α:=α) E l):=Le.err _
def pG (p:Option Lv):Prop:=∀q,p=some q→∀l:List Tk,Le l.length (q.sg l)∧Le l.length (q.pi l)∧Le l.length (q.xp l)
variable {p:Option Lv}
theorem B6 (h:pG p) (l:List Tk):Le l.length (eV E p l):=by
 unfold eV;split
 ·exact Le.err _
 ·exact(h _ rfl l).2.2
theorem piO_le (h:pG p) (l:List Tk):Le l.length (rJ E p l):=by
 unfold rJ;split
 ·exact Le.err _
 ·exact(h _ rfl l).2.1
theorem sgO_le (h:pG p) (l:List Tk):Le l.length (rI E p l):=by
 unfold rI;split
 ·exact Le.err _
 ·exact(h _ rfl l).1
theorem GS (h:pG p):∀(f:Nat) (o:List PT) (l:List Tk),Le l.length (iA E p f o l)
 | 0,_,_=>Le.err _
 | f+1,o,l=>by
  unfold iA;refine Le.ite (fun _=>tmS_le _ _) fun _=>Le.bind (B6 h l) fun x r hr=>Le.ite (fun _=>(GS h f _ r.tail).mono (bJ (qp r) hr)) fun _=>Le.bind ((Ai _ r).mono hr) fun _ q hq=>Le.ok hq
theorem agS_le (h:pG p) (l:List Tk):Le l.length (mE E p l):=Le.ite (fun _=>Le.ok (qp l)) fun _=>GS h _ _ l
theorem npS_le (h:pG p) (l:List Tk):Le l.length (kj E p l):=
 Le.bind (nmS_le l) fun _ r hr=>Le.ite (fun _=>Le.bind ((B6 h r.tail).mono (bJ (qp r) hr)) fun _ q hq=>Le.bind ((Ai _ q).mono hq) fun _ _ hm=>Le.ok hm)
  fun _=>Le.ite (fun _=>Le.bind ((agS_le h r.tail).mono (bJ (qp r) hr)) fun _ _ hq=>Le.ok hq) fun _=>Le.ok hr
theorem Ce (h:pG p) (l:List Tk):Le l.length (fi E p l):=
 Le.ite (fun _=>npS_le h l) fun _=>Le.ite (fun _=>Le.bind (nuS_le l) fun _ _ hr=>Le.ok hr) fun _=>Le.ite (fun _=>Le.ok (qp l)) fun _=>
  Le.ite (fun _=>Le.bind ((piO_le h l.tail).mono (qp l)) fun _ _ hr=>Le.ok hr) fun _=>Le.bind (Ai _ l) fun _ r hr=>Le.bind ((B6 h r).mono hr) fun _ q hq=>Le.bind ((Ai _ q).mono hq) fun _ _ hm=>Le.ok hm
theorem xe (h:pG p) (l:List Tk):Le l.length (fC E p l):=Le.ite (fun _=>Le.bind ((sgO_le h l.tail).mono (qp l)) fun _ _ hr=>Le.ok hr) fun _=>Ce h l
theorem FY {lv:Nat} {N:List Tk→Sy PT} (hN:∀l,Le l.length (N l)):∀(f:Nat) (x:PT) (l:List Tk),Le l.length (jU E lv N f x l)
 | 0,_,_=>Le.err _
 | f+1,x,l=>by
  unfold jU;exact Le.ite (fun _=>Le.ok (ax _)) fun _=>Le.bind ((hN l.tail).mono (qp l)) fun y r hr=>(FY hN f _ r).mono hr
theorem uA {lv:Nat} {N:List Tk→Sy PT} (hN:∀l,Le l.length (N l)) (l:List Tk):Le l.length (jT E lv N l):=Le.bind (hN l) fun x r hr=>(FY hN _ x r).mono hr
theorem BN (h:pG p) (lv:Nat) (l:List Tk):Le l.length (kH E p lv l):=by
 unfold kH;split
 ·exact uA (uA (uA (xe h))) l
 ·split
  ·exact uA (uA (xe h)) l
  ·split
   ·exact uA (xe h) l
   ·exact xe h l
theorem Al:∀d:Nat,pG (bV E d)
 | 0=>fun q h=>by cases h
 | d+1=>fun q h l=>by
  have:=Al d;injection h with h
  subst h;exact⟨xe this l,Ce this l,BN this 1 l⟩
theorem D5 {lv:Nat} {N:List Tk→Sy PT} (hN:∀l,Le l.length (N l)):∀(f g:Nat) (x:PT) (l:List Tk),l.length < f→l.length < g→jU E lv N f x l=jU E lv N g x l
 | 0,_,_,_,h,_=>absurd h (Nat.not_lt_zero _)
 | _+1,0,_,_,_,h=>absurd h (Nat.not_lt_zero _)
 | f+1,g+1,x,l,h1,h2=>by
  unfold jU
  by_cases hk:gF lv (ak E 0 l)=0
  ·rw[af hk,af hk]
  ·rw[ac hk,ac hk]
   cases hq:N l.tail with
   | error e=>rfl
   | ok v=>
    have hl:l≠[]:=by
     rintro rfl;exact hk rfl
    have h3:=hN l.tail v.1 v.2 hq;have h4:l.tail.length < l.length:=by rw[List.length_tail];have:=AE.2 hl;omega
    exact D5 hN f g _ v.2 (by omega) (by omega)
theorem D4 {lv:Nat} {N:List Tk→Sy PT} (hN:∀l,Le l.length (N l)) {x:PT} {l:List Tk} (hk:gF lv (ak E 0 l)≠0):jU E lv N (l.length+1) x l=aR (N l.tail) fun y r=>jU E lv N (r.length+1) (kl (gF lv (ak E 0 l)) [x,y]) r:=by
 rw[jU,ac hk]
 cases hq:N l.tail with
 | error e=>rfl
 | ok v=>
  have hl:l≠[]:=by
   rintro rfl;exact hk rfl
  have h3:=hN l.tail v.1 v.2 hq;have h4:l.tail.length < l.length:=by rw[List.length_tail];have:=AE.2 hl;omega
  exact D5 hN _ _ _ v.2 (by omega) (by omega)
theorem D3 {lv:Nat} {N:List Tk→Sy PT} {x:PT} {l:List Tk} (hk:gF lv (ak E 0 l)=0):jU E lv N (l.length+1) x l=.ok (x,l):=by rw[jU,af hk]
end
open Go.RowKit
theorem EA (s:ByteArray):∀f g p i,i≤s.size→s.size < i+f→s.size < i+g→iP s f p i=iP s g p i
 | 0,g,p,i,hi,hf,_=>by omega
 | f+1,0,p,i,hi,_,hg=>by omega
 | f+1,g+1,p,i,hi,hf,hg=>by
  rw[iP,iP]
  by_cases q:iO (nx s i)=0
  ·rw[af q,af q]
  ·rw[ac q,ac q]
   have hn:nx s i≠0:=fun z=>q (by rw[z];rfl)
   have h3:=kU hn;have hsk:=eM s i hi
   cases hr:gR s (sk s i+1) with
   | error e=>rfl
   | ok v=>
    have h4:=v8 s (sk s i+1) v.1 v.2 (by omega) hr
    exact EA s f g _ v.2 h4.2 (by omega) (by omega)
def gv (s:ByteArray) (p:PT) (i:Nat):Rd PT:=iP s (s.size+1) p i
theorem Gr {s:ByteArray} {p:PT} {i:Nat} (h:iO (nx s i)=0):gv s p i=.ok (p,sk s i):=by unfold gv;rw[iP,af h]
theorem Np {s:ByteArray} {p:PT} {i j:Nat} {t:ByteArray} (hi:i≤s.size) (h:iO (nx s i)≠0) (hn:gR s (sk s i+1)=.ok (t,j)):gv s p i=gv s (aI (iO (nx s i)) ⟨#[]⟩ 0 t [p]) j:=by
 have hx:=kU (s:=s) (i:=i) fun z=>h (by rw[z];rfl)
 have hsk:=eM s i hi;have h4:=v8 s (sk s i+1) t j (by omega) hn
 unfold gv;rw[iP,ac h,hn,dE];exact EA s _ _ _ _ h4.2 (by omega) (by omega)
theorem KE {d:Nat} {B:Nat→Rd PT} {s:ByteArray} {i:Nat} (h:aj s i=32):jG d B s i=jG d B s (i+1):=by unfold jG;rw[wO h,xY h]
theorem JX {d:Nat} {B:Nat→Rd PT} {s:ByteArray} {i:Nat} (h:aj s i=32):gQ d B s i=gQ d B s (i+1):=by unfold gQ;rw[KE h]
theorem JY {d:Nat} {B:Nat→Rd PT} {s:ByteArray} {i:Nat} (h:aj s i=32):im d B s i=im d B s (i+1):=by unfold im;rw[JX h]
def En (s:ByteArray) (j:Nat):Prop:=nx s j=0∨nx s j=41
def Ec (s:ByteArray) (j:Nat):Prop:=En s j∨nx s j=124
theorem Ec.gv {s:ByteArray} {j:Nat} (h:Ec s j):iO (nx s j)=0:=by rcases h with (h | h) | h <;> rw[h] <;> rfl
theorem Ec.beg {s:ByteArray} {j:Nat} (h:Ec s j):kg (nx s j)=false:=by rcases h with (h | h) | h <;> rw[h] <;> rfl
theorem En.alt {s:ByteArray} {j:Nat} (h:En s j):nx s j≠124:=by rcases h with h | h <;> rw[h] <;> decide
theorem GH {b:Nat} (h:kg b=true):iO b=0∧b≠32:=by
 unfold kg at h;unfold iO;constructor
 ·by_cases h1:b=46
  ·subst h1;exact absurd h (by decide)
  ·by_cases h2:b=36
   ·subst h2;exact absurd h (by decide)
   ·rw[ac h1,ac h2]
 ·intro e;subst e;exact absurd h (by decide)
def jn (sep:List UInt8):List (List UInt8)→List UInt8
 | []=>[]
 | [x]=>x
 | x::y::r=>x++(sep++jn sep (y::r))
theorem Fj (sep:List UInt8):∀(l:List (List UInt8)) (x:List UInt8),jn sep (l++[x])=jn sep l++(if l=[] then [] else sep)++x
 | [],x=>rfl
 | [a],x=>by show a++(sep++x)=_;simp[jn]
 | a::b::l,x=>by
  have ih:=Fj sep (b::l) x;rw[ac (by simp)] at ih ⊢
  show a++(sep++jn sep (b::l++[x]))=(a++(sep++jn sep (b::l)))++sep++x;rw[ih];simp
theorem Bh (sep:List UInt8) (f:Nat→List UInt8):∀n,iJ sep f n=jn sep ((List.range n).map f)
 | 0=>rfl
 | n+1=>by
  rw[iJ,Bh sep f n,List.range_succ,qA,List.map_singleton,Fj]
  by_cases h:n=0
  ·subst h;simp
  ·rw[af (by omega),ac (by simpa using h)]
structure Pie (d:Nat) (B:Nat→Rd PT) (s:ByteArray) (x:List UInt8 × PT):Prop where
 reads:∀i,At s i x.1→iZ s (i+x.1.length)→gQ d B s i=gv s x.2 (i+x.1.length)
 begins:∃c r,x.1=c::r∧kg c.toNat=true
theorem Pie.start {d:Nat} {B:Nat→Rd PT} {s:ByteArray} {x:List UInt8 × PT} (h:Pie d B s x) {i:Nat} {t:List UInt8} (ha:At s i (x.1++t)):kg (aj s i)=true∧aj s i≠32∧iO (aj s i)=0:=by
 obtain⟨c,r,e,hb⟩:=h.begins;rw[e] at ha;have:=ha.head.1;rw[this];exact⟨hb,(GH hb).2,(GH hb).1⟩
theorem Ex (sep:List UInt8) (x:List UInt8) (l:List (List UInt8)):∃t,jn sep (x::l)=x++t:=by
 cases l with
 | nil=>exact⟨[],(k9 _).symm⟩
 | cons y r=>exact⟨_,rfl⟩
theorem FB {d:Nat} {B:Nat→Rd PT} {s:ByteArray}:∀(L:List (List UInt8 × PT)) (x:List UInt8 × PT) (acc:List PT) (f i:Nat),(∀y ∈ x::L,Pie d B s y)→At s i (jn [32] ((x::L).map (·.1)))→iZ s (i+(jn [32] ((x::L).map (·.1))).length)→Ec s (i+(jn [32] ((x::L).map (·.1))).length)→s.size < i+f→
  (bO (gQ d B s i) fun p j=>lF d B s f (acc++[p]) j)=.ok (acc++(x::L).map (·.2),sk s (i+(jn [32] ((x::L).map (·.1))).length))
 | [],x,acc,f,i,hp,ha,hs,he,hf=>by
  have hx:=hp x (by simp)
  obtain⟨f',rfl⟩:∃f',f=f'+1:=⟨f - 1,by have:=ha.le;omega⟩
  have hs':iZ s (i+x.1.length):=hs;have he':Ec s (i+x.1.length):=he;rw[hx.reads i ha hs',Gr he'.gv,dE,lF];have e:nx s (sk s (i+x.1.length))=nx s (i+x.1.length):=G1 _ _;show (if kg (nx s (sk s (i+x.1.length)))=true then _ else _)=_;rw[e,ac (by rw[he'.beg];decide),CC]
  rfl
 | y::L,x,acc,f,i,hp,ha,hs,he,hf=>by
  have hx:=hp x (by simp)
  have hy:=hp y (by simp)
  have ha':At s i (x.1++([32]++jn [32] ((y::L).map (·.1)))):=ha
  have cM:(jn [32] ((x::y::L).map (·.1))).length=x.1.length+(1+(jn [32] ((y::L).map (·.1))).length):=by
   show (x.1++(([32]:List UInt8)++jn [32] ((y::L).map fun z=>z.1))).length=_
   simp only[bg,List.length_cons,List.length_nil]
  have jd:aj s (i+x.1.length)=32:=ha'.right.head.1;have hr:At s (i+x.1.length+1) (jn [32] ((y::L).map (·.1))):=ha'.right.tail
  obtain⟨t,ht⟩:=Ex [32] y.1 (L.map (·.1))
  have be:=hy.start (show At s (i+x.1.length+1) (y.1++t) by rw[←ht];exact hr)
  have l8:nx s (i+x.1.length)=aj s (i+x.1.length+1):=by rw[xY jd,kF be.2.1]
  have sd:sk s (i+x.1.length)=i+x.1.length+1:=by rw[wO jd,ji be.2.1]
  obtain⟨f',rfl⟩:∃f',f=f'+1:=⟨f - 1,by have:=ha.le;omega⟩
  rw[hx.reads i ha'.left (.inl jd),Gr (by rw[l8];exact be.2.2),dE,lF,sd]
  rw[kF be.2.1,ji be.2.1,af be.1];have e:i+(jn [32] ((x::y::L).map (·.1))).length=i+x.1.length+1+(jn [32] ((y::L).map (·.1))).length:=by omega
  rw[e] at hs he ⊢;have ih:=FB L y (acc++[x.2]) f' (i+x.1.length+1) (fun z hz=>hp z (lY _ hz)) hr hs he (by omega)
  rw[ih,gg];rfl
structure Alt (d:Nat) (B:Nat→Rd PT) (s:ByteArray) (x:List UInt8 × PT):Prop where
 reads:∀i,At s i x.1→iZ s (i+x.1.length)→Ec s (i+x.1.length)→im d B s i=.ok (x.2,sk s (i+x.1.length))
 begins:∃c r,x.1=c::r∧kg c.toNat=true
theorem FM {d:Nat} {B:Nat→Rd PT} {s:ByteArray}:∀(L:List (List UInt8 × PT)) (x:List UInt8 × PT) (acc:List PT) (f i:Nat),(∀y ∈ x::L,Alt d B s y)→At s i (jn [32,124,32] ((x::L).map (·.1)))→iZ s (i+(jn [32,124,32] ((x::L).map (·.1))).length)→En s (i+(jn [32,124,32] ((x::L).map (·.1))).length)→s.size < i+f→
  (bO (im d B s i) fun p j=>lI d B s f (acc++[p]) j)=.ok (acc++(x::L).map (·.2),sk s (i+(jn [32,124,32] ((x::L).map (·.1))).length))
 | [],x,acc,f,i,hp,ha,hs,he,hf=>by
  have hx:=hp x (by simp)
  obtain⟨f',rfl⟩:∃f',f=f'+1:=⟨f - 1,by have:=ha.le;omega⟩
  have hs':iZ s (i+x.1.length):=hs;have he':En s (i+x.1.length):=he;rw[hx.reads i ha hs' (.inl he'),dE,lI];have e:nx s (sk s (i+x.1.length))=nx s (i+x.1.length):=G1 _ _;show (if nx s (sk s (i+x.1.length))=124 then _ else _)=_;rw[e,ac he'.alt,CC];rfl
 | y::L,x,acc,f,i,hp,ha,hs,he,hf=>by
  have hx:=hp x (by simp)
  have hy:=hp y (by simp)
  have ha':At s i (x.1++([32,124,32]++jn [32,124,32] ((y::L).map (·.1)))):=ha
  have cM:(jn [32,124,32] ((x::y::L).map (·.1))).length=x.1.length+(3+(jn [32,124,32] ((y::L).map (·.1))).length):=by
   show (x.1++(([32,124,32]:List UInt8)++jn [32,124,32] ((y::L).map fun z=>z.1))).length=_
   simp only[bg,List.length_cons,List.length_nil]
  have jd:aj s (i+x.1.length)=32:=ha'.right.head.1;have h124:aj s (i+x.1.length+1)=124:=ha'.right.tail.head.1;have h33:aj s (i+x.1.length+1+1)=32:=ha'.right.tail.tail.head.1;have hr:At s (i+x.1.length+1+1+1) (jn [32,124,32] ((y::L).map (·.1))):=ha'.right.tail.tail.tail
  have l8:nx s (i+x.1.length)=124:=by rw[xY jd,kF (by omega),h124]
  have sd:sk s (i+x.1.length)=i+x.1.length+1:=by rw[wO jd,ji (by omega)]
  obtain⟨f',rfl⟩:∃f',f=f'+1:=⟨f - 1,by have:=ha.le;omega⟩
  rw[hx.reads i ha'.left (.inl jd) (.inr l8),dE,lI,sd];rw[kF (by omega),af h124,ji (by omega),JY h33]
  have e:i+(jn [32,124,32] ((x::y::L).map (·.1))).length=i+x.1.length+1+1+1+(jn [32,124,32] ((y::L).map (·.1))).length:=by omega
  rw[e] at hs he ⊢;have ih:=FM L y (acc++[x.2]) f' (i+x.1.length+1+1+1) (fun z hz=>hp z (lY _ hz)) hr hs he (by omega)
  rw[ih,gg];rfl
open Go.RowKit
theorem AY {f:Nat→Int}:∀{n:Nat},fT f n=0→∀i,i < n→f i=0
 | 0,_,i,hi=>absurd hi (Nat.not_lt_zero i)
 | n+1,h,i,hi=>by
  unfold fT at h;split at h
  ·rename_i h0
   rcases cX i n with h1 | h1
   ·exact AY h0 i h1
   ·rw[show i=n by omega];exact h
  ·rename_i h0
   exact absurd h h0
theorem fR {T:PT} (h:T.bad=0):bI T=0∧∀i,i < T.len→(T.kid i).bad=0:=by
 rw[T.bad_eq] at h;split at h
 ·rename_i h0
  exact⟨h0,AY h⟩
 ·rename_i h0
  exact absurd h h0
theorem zk {T:PT} (h:bI T=0) (hk:21≤T.k∧T.k≤24):T.nm.size≤16:=by
 have hn:bp T.nm=true:=by
  cases hq:bp T.nm with
  | true=>rfl
  | false=>
   have:bI T=7:=by
    have e:aE T.k=3:=by unfold aE;rw[ac (by omega),ac (by omega),af hk]
    unfold bI;rw[ac (by omega),ac (by omega),ac (by omega),ac (by omega),af ⟨e,hq⟩]
   omega
 unfold bp at hn;simp at hn;exact hn.1
theorem jy {T:PT} (h:bI T=0):1≤T.k∧T.k≤24∧(aE T.k=1→T.t.size≤65536)∧(aE T.k=2→0≤T.n∧T.n≤65536)∧(aE T.k=3→bp T.nm=true)∧co T.k≤T.len∧(T.len:Int)≤cD T.k:=by
 unfold bI at h;split at h
 ·omega
 ·split at h
  ·omega
  ·split at h
   ·omega
   ·split at h
    ·omega
    ·split at h
     ·omega
     ·split at h
      ·omega
      ·rename_i h1 h2 h3 h4 h5 h6
       refine⟨by omega,by omega,fun x=>by omega,fun x=>by omega,fun x=> ?_,by omega,by omega⟩
       cases hn:bp T.nm with
       | true=>rfl
       | false=>exact absurd ⟨x,hn⟩ h5
end Go.Proofs.YtlmnjbipfacniaaGreatDoor
