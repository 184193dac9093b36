/- What is written is read: patterns. What is written is read: -/
import Derived.Test.YtlmnjbipfacniaaGreatDoorPatRightM
import Derived.Test.YtlmnjbipfacniaaGreatDoorStBM
namespace Go.Proofs.YtlmnjbipfacniaaGreatDoor
open Go.RowKit
def PT.bar:PT→PT
 | .node k t n nm _ _ _ _ _ kids=>aI k (if aE k=1 then t else ⟨#[]⟩) (if aE k=2 then n else 0) (if aE k=3 then nm else ⟨#[]⟩) (List.ofFn fun i=>PT.bar (kids i))
theorem PT.bar_eq (T:PT):T.bar=aI T.k (if aE T.k=1 then T.t else ⟨#[]⟩) (if aE T.k=2 then T.n else 0) (if aE T.k=3 then T.nm else ⟨#[]⟩) (T.lst.map PT.bar):=by
 obtain⟨k,t,n,nm,xa,b,o,len,cap,kids⟩:=T;show aI k _ _ _ (List.ofFn fun i=>PT.bar (kids i))=aI k _ _ _ ((List.ofFn kids).map PT.bar)
 rw[List.map_ofFn];rfl
theorem zv (T:PT):T.lst=(List.range T.len).map T.kid:=by
 apply List.ext_getElem?;intro i
 by_cases h:i < T.len
 ·rw[PT.lst_at h,rP,List.getElem?_range h];rfl
 ·rw[xB (by rw[PT.lst_len];omega),xB (by simp;omega)]
def PT.pie (T:PT):List UInt8:=rL (decide (T.k=19) || decide (T.k=18)) T.txt
def PT.alt (T:PT):List UInt8:=rL (decide (T.k=19)) T.txt
def Bf (s:ByteArray):Nat→Nat→Rd PT
 | 0=>fun j=>.error (0,j)
 | d+1=>iY s d
theorem alD_eq (s:ByteArray) (d i:Nat):iY s d i=lX d (Bf s d) s i:=by cases d <;> rfl
theorem pcP_as {d:Nat} {B:Nat→Rd PT} {s:ByteArray} {i:Nat}:im d B s i=bO (bO (gQ d B s i) fun p j=>lF d B s (s.size+1) ([]++[p]) j) fun l e=>.ok (iw 18 l,e):=by
 unfold im
 cases gQ d B s i <;> rfl
theorem alP_as {d:Nat} {B:Nat→Rd PT} {s:ByteArray} {i:Nat}:lX d B s i=bO (bO (im d B s i) fun p j=>lI d B s (s.size+1) ([]++[p]) j) fun l e=>.ok (iw 19 l,e):=by
 unfold lX
 cases im d B s i <;> rfl
theorem LP {sep:List UInt8} {x:List UInt8} {l:List (List UInt8)} (h:∃c r,x=c::r∧kg c.toNat=true):∃c r,jn sep (x::l)=c::r∧kg c.toNat=true:=by
 obtain⟨c,r,e,hb⟩:=h;obtain⟨t,ht⟩:=Ex sep x l;exact⟨c,r++t,by rw[ht,e];rfl,hb⟩
theorem GJ {d:Nat} {B:Nat→Rd PT} {s:ByteArray} (x:List UInt8 × PT) (L:List (List UInt8 × PT)) (h:∀y ∈ x::L,Pie d B s y):Alt d B s (jn [32] ((x::L).map (·.1)),iw 18 ((x::L).map (·.2))):=
 ⟨fun i ha hs he=>by rw[pcP_as,FB L x [] (s.size+1) i h ha hs he (by omega),dE];rfl,LP (h x (by simp)).begins⟩
theorem GK {d:Nat} {s:ByteArray} (x:List UInt8 × PT) (L:List (List UInt8 × PT)) (h:∀y ∈ x::L,Alt d (Bf s d) s y) {i:Nat} (ha:At s i (jn [32,124,32] ((x::L).map (·.1)))) (hs:iZ s (i+(jn [32,124,32] ((x::L).map (·.1))).length)) (he:En s (i+(jn [32,124,32] ((x::L).map (·.1))).length)):
  iY s d i=.ok (iw 19 ((x::L).map (·.2)),sk s (i+(jn [32,124,32] ((x::L).map (·.1))).length)):=by
 rw[alD_eq,alP_as,FM L x [] (s.size+1) i h ha hs he (by omega),dE];rfl
def All (s:ByteArray) (d:Nat) (x:List UInt8 × PT):Prop:=∀i,At s i x.1→iZ s (i+x.1.length)→En s (i+x.1.length)→iY s d i=.ok (x.2,sk s (i+x.1.length))
theorem Gc {s:ByteArray} {d:Nat} {x:List UInt8 × PT} (h:All s d x) {i:Nat} (ha:At s i (40::x.1++[41])):jD (d+1) (Bf s (d+1)) s i=.ok (x.2,i+x.1.length+2):=by
 have ha':At s i ([40]++(x.1++[41])):=ha;have ip:aj s i=40:=ha'.head.1;have h1:=ha'.right;have vt:aj s (i+1+x.1.length)=41:=h1.right.head.1;have hn:nx s (i+1+x.1.length)=41:=by rw[kF (by omega),vt]
 have hr:=h (i+1) h1.left (.inr (.inl vt)) (.inr hn);unfold jD;rw[show eF s 40 i=.ok ((),i+1) by unfold eF;rw[kF (by omega),ip,af rfl,ji (by omega)],dE,ac (by omega)]
 show bO (iY s d (i+1)) _=_;rw[hr,dE,ji (by omega),show eF s 41 (i+1+x.1.length)=.ok ((),i+1+x.1.length+1) by unfold eF;rw[hn,af rfl,ji (by omega)],dE]
 congr 2
 omega
theorem GG {s:ByteArray} {d:Nat} {x:List UInt8 × PT} (h:All s d x):Pie (d+1) (Bf s (d+1)) s (40::x.1++[41],x.2):=
 ⟨fun i ha hs=>by
  have ip:aj s i=40:=(At.head (l:=x.1++[41]) ha).1;unfold gQ jG;rw[kF (by omega),ip,ac (by decide),af rfl,ji (by omega),Gc h ha,dE]
  show gv s x.2 (i+x.1.length+2)=gv s x.2 (i+(40::x.1++[41]).length)
  congr 1
  simp;omega,⟨40,x.1++[41],rfl,rfl⟩⟩
theorem Dp {b:Nat} (h:di b=true):kg b=true∧b≠32∧b≠39∧b≠40∧b≠64∧b≠42:=by
 have:=mG h;refine⟨by unfold kg;rw[h];rfl, ?_, ?_, ?_, ?_, ?_⟩ <;> omega
theorem zg {d:Nat} {B:Nat→Rd PT} {s:ByteArray} {k:Nat} (hk:(2≤k∧k≤17)∨k=20) {tl:List UInt8} {p:PT} (h:∀i,At s i ((aQ k).data.toList++tl)→iZ s (i+((aQ k).data.toList++tl).length)→bX s i=i+(aQ k).size→fB d B s i=.ok (p,i+((aQ k).data.toList++tl).length)) (ht:∀c r,tl=c::r→dF c.toNat=false):Pie d B s ((aQ k).data.toList++tl,p):=by
 obtain⟨hw,c,r,hc,hl⟩:=Dz k hk;have ay:(aQ k).data.toList.length=(aQ k).size:=by simp
 refine⟨fun i ha hs=> ?_,c,r++tl,by show (aQ k).data.toList++tl=_;rw[hc];rfl,(Dp hl).1⟩
 have ha':At s i ((aQ k).data.toList++tl):=ha;have ha2:=ha';rw[hc] at ha2;have hb:aj s i=c.toNat:=ha2.head.1;obtain⟨-,n32,n39,n40,n64,n42⟩:=Dp hl;have hnw:dF (aj s (i+(aQ k).data.toList.length))=false:=by
  cases tl with
  | nil=>
       have:iZ s (i+(aQ k).data.toList.length):=by simpa using hs
       exact this.word
  | cons c' r'=>rw[ha'.right.head.1];exact ht c' r' rfl
 have hE:bX s i=i+(aQ k).size:=by
  rw[←ay];exact wY _ i (fun j hj=>⟨by have:=ha'.left.le;omega,by rw[ha'.left.get hj];exact hw _ (qz hj)⟩) hnw
 unfold gQ jG;rw[kF (by omega),hb,ac n39,ac n40,ac n64,ac n42,af hl,ji (by omega),h i ha' hs hE,dE]
 rfl
theorem AZ {c:UInt8} (h:c=40):dF c.toNat=false:=by subst h;rfl
theorem zV {s:ByteArray} {k i:Nat} (hk:(2≤k∧k≤17)∨k=20) {tl:List UInt8} (ha:At s i ((aQ k).data.toList++tl)):iL (s.extract i (i+(aQ k).size))=k:=by
 have ay:(aQ k).data.toList.length=(aQ k).size:=by simp
 have:=A6 ha.left;rw[ay] at this;rw[this];exact Jo k hk
theorem J1 {d:Nat} {B:Nat→Rd PT} {s:ByteArray} {k:Nat} (hk:(2≤k∧k≤17)∨k=20) (h2:aE (k:Int)=2) {n:Int} (h0:0≤n) (hn:n≤65536):Pie d B s ((aQ k).data.toList++(40::Lib.itoa n++[41]),aI k ⟨#[]⟩ n ⟨#[]⟩ []):=by
 have dr:k≠0:=by omega
 have hk20:k≠20:=by rintro rfl;exact absurd h2 (by decide)
 have ay:(aQ k).data.toList.length=(aQ k).size:=by simp
 refine zg hk (fun i ha hs hE=> ?_) (fun c r e=>AZ (by cases e;rfl))
 have h1:=ha.right;rw[ay] at h1;have ip:aj s (i+(aQ k).size)=40:=h1.head.1;have h3:At s (i+(aQ k).size+1) (Lib.itoa n++[41]):=h1.tail;have vt:aj s (i+(aQ k).size+1+(Lib.itoa n).length)=41:=h3.right.head.1;unfold fB;rw[hE,zV hk ha,ac dr,ac hk20,af h2];rw[show eF s 40 (i+(aQ k).size)=.ok ((),i+(aQ k).size+1) by unfold eF;rw[kF (by omega),ip,af rfl,ji (by omega)],dE]
 rw[nuP_at h0 hn h3.left (.inr (.inl vt)),dE];rw[show eF s 41 (i+(aQ k).size+1+(Lib.itoa n).length)=.ok ((),i+(aQ k).size+1+(Lib.itoa n).length+1) by unfold eF;rw[kF (by omega),vt,af rfl,ji (by omega)],dE]
 rw[show ((n.toNat:Nat):Int)=n by omega]
 congr 2
 simp;omega
theorem IR {d:Nat} {B:Nat→Rd PT} {s:ByteArray} {k:Nat} (hk:(2≤k∧k≤17)∨k=20) (h1:aE (k:Int)=1) {t:ByteArray} (ht:t.size≠0):Pie d B s ((aQ k).data.toList++(40::eC t.data.toList++[41]),aI k t 0 ⟨#[]⟩ []):=by
 have dr:k≠0:=by omega
 have hk20:k≠20:=by rintro rfl;exact absurd h1 (by decide)
 have ay:(aQ k).data.toList.length=(aQ k).size:=by simp
 refine zg hk (fun i ha hs hE=> ?_) (fun c r e=>AZ (by cases e;rfl))
 have h1':=ha.right;rw[ay] at h1';have ip:aj s (i+(aQ k).size)=40:=h1'.head.1;have h3:At s (i+(aQ k).size+1) (eC t.data.toList++[41]):=h1'.tail;have vt:aj s (i+(aQ k).size+1+(eC t.data.toList).length)=41:=h3.right.head.1;unfold fB;rw[hE,zV hk ha,ac dr,ac hk20,ac (by rw[h1];decide),af h1]
 rw[show eF s 40 (i+(aQ k).size)=.ok ((),i+(aQ k).size+1) by unfold eF;rw[kF (by omega),ip,af rfl,ji (by omega)],dE]
 rw[fiP_at h3.left ht (.inr (.inl vt)),dE];rw[show eF s 41 (i+(aQ k).size+1+(eC t.data.toList).length)=.ok ((),i+(aQ k).size+1+(eC t.data.toList).length+1) by unfold eF;rw[kF (by omega),vt,af rfl,ji (by omega)],dE]
 congr 2
 simp;omega
theorem Jn {d:Nat} {B:Nat→Rd PT} {s:ByteArray} {k:Nat} (hk:12≤k∧k≤17):Pie d B s ((aQ k).data.toList++[],aI k ⟨#[]⟩ 0 ⟨#[]⟩ []):=by
 have hk':(2≤k∧k≤17)∨k=20:=.inl (by omega)
 have h0:aE (k:Int)=0:=by unfold aE;rw[ac (by omega),ac (by omega),ac (by omega)]
 have ay:(aQ k).data.toList.length=(aQ k).size:=by simp
 refine zg hk' (fun i ha hs hE=> ?_) (fun c r e=>by cases e)
 unfold fB;rw[hE,zV hk' ha,ac (by omega),ac (by omega),ac (by rw[h0];decide),ac (by rw[h0];decide),k9,ay]
theorem KF {d:Nat} {s:ByteArray} {x:List UInt8 × PT} (h:All s d x):Pie (d+1) (Bf s (d+1)) s ((aQ 20).data.toList++(40::x.1++[41]),aI 20 ⟨#[]⟩ 0 ⟨#[]⟩ [x.2]):=by
 have hk':(2≤20∧20≤17)∨20=20:=.inr rfl;have ay:(aQ 20).data.toList.length=(aQ 20).size:=by simp
 refine zg hk' (fun i ha hs hE=> ?_) (fun c r e=>AZ (by cases e;rfl))
 have h1:=ha.right;rw[ay] at h1;unfold fB;rw[hE,zV hk' ha,ac (by decide),af rfl,Gc h h1,dE]
 congr 2
 simp;omega
theorem Kd {d:Nat} {B:Nat→Rd PT} {s:ByteArray} {t:ByteArray}:Pie d B s (eC t.data.toList,aI 1 t 0 ⟨#[]⟩ []):=
 ⟨fun i ha hs=>by
  have gy:aj s i=39:=(At.head (l:=_) ha).1;unfold gQ jG;rw[kF (by omega),gy,af rfl,ji (by omega),F1 ha hs,dE,dE]
  rfl,⟨39,_,rfl,rfl⟩⟩
theorem Do {d:Nat} {B:Nat→Rd PT} {s:ByteArray} {nm:ByteArray} (hn:bp nm=true) {c:UInt8} {k:Int} (hc:(c=64∧k=23)∨(c=42∧k=24)):Pie d B s (c::nm.data.toList,aI k ⟨#[]⟩ 0 nm []):=
 ⟨fun i ha hs=>by
  have hb:aj s i=c.toNat:=ha.head.1;have cM:(c::nm.data.toList).length=nm.size+1:=by simp
  have hs':iZ s (i+1+nm.size):=by
   have:iZ s (i+(c::nm.data.toList).length):=hs;rw[cM,show i+(nm.size+1)=i+1+nm.size by omega] at this
   exact this
  have hr:=Gl hn ha.tail hs';unfold gQ jG;rcases hc with ⟨rfl,rfl⟩ | ⟨rfl,rfl⟩
  ·have hb':aj s i=64:=hb
   rw[kF (by omega),hb',ac (by decide),ac (by decide),af rfl,ji (by omega),hr,dE,dE]
   show gv s _ (i+1+nm.size)=gv s _ (i+(64::nm.data.toList).length);rw[show i+(64::nm.data.toList).length=i+1+nm.size by simp;omega]
  ·have hb':aj s i=42:=hb
   rw[kF (by omega),hb',ac (by decide),ac (by decide),ac (by decide),af rfl,ji (by omega),hr,dE,dE]
   show gv s _ (i+1+nm.size)=gv s _ (i+(42::nm.data.toList).length);rw[show i+(42::nm.data.toList).length=i+1+nm.size by simp;omega],⟨c,_,rfl,by rcases hc with ⟨rfl,_⟩ | ⟨rfl,_⟩ <;> rfl⟩⟩
theorem Ds {d:Nat} {B:Nat→Rd PT} {s:ByteArray} {nm:ByteArray} (hn:bp nm=true) {x:List UInt8 × PT} (hx:Pie d B s x) {c:UInt8} {k:Int} (hc:(c=46∧k=21)∨(c=36∧k=22)):Pie d B s (x.1++[32,c,32]++nm.data.toList,aI k ⟨#[]⟩ 0 nm [x.2]):=by
 obtain⟨c0,r0,e0,aZ⟩:=hx.begins;refine⟨fun i ha hs=> ?_,c0,r0++[32,c,32]++nm.data.toList,by show x.1++_++_=_;rw[e0];rfl,aZ⟩
 have ha':At s i (x.1++([32,c,32]++nm.data.toList)):=by rw[←gg];exact ha
 have jd:aj s (i+x.1.length)=32:=ha'.right.head.1;have hcb:aj s (i+x.1.length+1)=c.toNat:=ha'.right.tail.head.1;have h33:aj s (i+x.1.length+1+1)=32:=ha'.right.tail.tail.head.1;have dq:At s (i+x.1.length+1+1+1) nm.data.toList:=ha'.right.tail.tail.tail;have cM:(x.1++[32,c,32]++nm.data.toList).length=x.1.length+3+nm.size:=by simp;omega
 have hs':iZ s (i+x.1.length+1+1+1+nm.size):=by
  have:iZ s (i+(x.1++[32,c,32]++nm.data.toList).length):=hs;rw[cM,show i+(x.1.length+3+nm.size)=i+x.1.length+1+1+1+nm.size by omega] at this
  exact this
 have j2:iO c.toNat=k.toNat∧k=(iO c.toNat:Int)∧c.toNat≠32∧iO c.toNat≠0:=by
  rcases hc with ⟨rfl,rfl⟩ | ⟨rfl,rfl⟩ <;> decide
 have hnx:nx s (i+x.1.length)=c.toNat:=by rw[xY jd,kF (by rw[hcb];exact j2.2.2.1),hcb]
 have hsk:sk s (i+x.1.length)=i+x.1.length+1:=by rw[wO jd,ji (by rw[hcb];exact j2.2.2.1)]
 have hr:=Gl hn dq hs';have eI:=ha'.left.le;rw[hx.reads i ha'.left (.inl jd),Np (j:=i+x.1.length+1+1+1+nm.size) (t:=nm) eI (by rw[hnx];exact j2.2.2.2) (by rw[hsk,J8 h33];exact hr),hnx,←j2.2.1]
 show gv s _ _=gv s _ (i+(x.1++[32,c,32]++nm.data.toList).length);rw[cM,show i+(x.1.length+3+nm.size)=i+x.1.length+1+1+1+nm.size by omega]
open Go.RowKit
theorem ry {T:PT} {i:Nat} (h:i < T.len):(T.kid i).dep+1≤T.dep:=by
 have h1:(T.kid i).dep≤nQ T.lst:=BV (rO (PT.lst_at h));rw[xc T];omega
theorem wa {α:Type} (T:PT) (f:PT→α):T.lst.map f=(List.range T.len).map fun i=>f (T.kid i):=by rw[zv,uY];rfl
theorem Dm {n:Nat} (h:0 < n):∃r,List.range n=0::r:=by
 obtain⟨m,rfl⟩:∃m,n=m+1:=⟨n - 1,by omega⟩
 exact⟨_,List.range_succ_eq_map⟩
theorem FG (p k:Int) (hp:p≠19):k5 p k=(decide (k=19) || decide (k=18)):=by
 unfold k5;rw[show decide (p≠19)=true from eW hp,Bool.and_true]
theorem NB (k:Int):k5 19 k=decide (k=19):=by
 unfold k5;rw[show decide ((19:Int)≠19)=false from rfl,Bool.and_false,Bool.or_false]
structure Rds (s:ByteArray) (T:PT):Prop where
 pie:∀d,(if T.k=18∨T.k=19 then T.dep≤d else T.dep≤d+1)→Pie d (Bf s d) s (T.pie,T.bar)
 alt:∀d,(if T.k=19 then T.dep≤d else T.dep≤d+1)→Alt d (Bf s d) s (T.alt,T.bar)
 all:∀d,T.dep≤d+1→All s d (T.txt,T.bar)
theorem B1 {d:Nat} {B:Nat→Rd PT} {s:ByteArray} {x:List UInt8 × PT} (h:Pie d B s x):Alt d B s x:=GJ x [] (fun y hy=>by rw[fE] at hy;subst hy;exact h)
theorem B2 {d:Nat} {s:ByteArray} {x:List UInt8 × PT} (h:Alt d (Bf s d) s x):All s d x:=fun _ ha hs he=>GK x [] (fun y hy=>by rw[fE] at hy;subst hy;exact h) ha hs he
theorem JV {s:ByteArray} {T:PT} (h8:T.k≠18) (h9:T.k≠19) (h:∀d,T.dep≤d+1→Pie d (Bf s d) s (T.txt,T.bar)):Rds s T:=by
 have e1:T.pie=T.txt:=by unfold PT.pie;rw[dh h9,dh h8];rfl
 have e2:T.alt=T.txt:=by unfold PT.alt;rw[dh h9];rfl
 refine⟨fun d hd=> ?_,fun d hd=> ?_,fun d hd=> ?_⟩
 ·rw[ac (by omega)] at hd;rw[e1];exact h d hd
 ·rw[ac h9] at hd;rw[e2];exact B1 (h d hd)
 ·exact B2 (B1 (h d hd))
theorem EK {k:Int} {l:List PT} (h:2≤l.length):iw k l=aI k ⟨#[]⟩ 0 ⟨#[]⟩ l:=by
 match l,h with
 | _::_::_,_=>rfl
theorem MN {s:ByteArray} {T:PT} (h8:T.k=18) (hl:2≤T.len) (ih:∀i,i < T.len→Rds s (T.kid i)):Rds s T:=by
 have hx:T.txt=jn [32] (T.lst.map PT.pie):=by
  rw[T.txt_eq (by omega),ac (by omega),af h8,Bh,wa]
  congr 1
  refine uS fun i _=> ?_
  unfold PT.kidT PT.pie;rw[FG _ _ (by omega)]
 have hb:T.bar=iw 18 (T.lst.map PT.bar):=by
  rw[EK (by rw[uW,PT.lst_len];exact hl),T.bar_eq,h8]
  rfl
 have core:∀d,T.dep≤d+1→Alt d (Bf s d) s (T.txt,T.bar):=fun d hd=>by
  obtain⟨r,hr⟩:=Dm (show 0 < T.len by omega)
  rw[hx,hb,wa,wa,hr,ib,ib];have jW:∀i ∈ List.range T.len,Pie d (Bf s d) s ((T.kid i).pie,(T.kid i).bar):=fun i hi=>by
   have hi':=List.mem_range.1 hi;have:=ry hi';exact(ih i hi').pie d (by split <;> omega)
  rw[hr] at jW;have:=GJ ((T.kid 0).pie,(T.kid 0).bar) (r.map fun i=>((T.kid i).pie,(T.kid i).bar)) (fun y hy=>by
   rcases dU.1 hy with rfl | hy
   ·exact jW 0 (by simp)
   ·obtain⟨i,hi,rfl⟩:=List.mem_map.1 hy
    exact jW i (lY _ hi))
  simpa [List.map_map,Function.comp_def] using this
 have e2:T.alt=T.txt:=by unfold PT.alt;rw[dh (by omega)];rfl
 have e1:T.pie=40::T.txt++[41]:=by unfold PT.pie;rw[eW h8,Bool.or_true];rfl
 refine⟨fun d hd=> ?_,fun d hd=> ?_,fun d hd=>B2 (core d hd)⟩
 ·rw[af (.inl h8)] at hd
  have:=T.dep_pos;obtain⟨d',rfl⟩:∃d',d=d'+1:=⟨d - 1,by omega⟩
  rw[e1];exact GG (B2 (core d' hd))
 ·rw[ac (by omega)] at hd;rw[e2];exact core d hd
theorem MO {s:ByteArray} {T:PT} (h9:T.k=19) (hl:2≤T.len) (ih:∀i,i < T.len→Rds s (T.kid i)):Rds s T:=by
 have hx:T.txt=jn [32,124,32] (T.lst.map PT.alt):=by
  rw[T.txt_eq (by omega),ac (by omega),ac (by omega),af h9,Bh,wa]
  congr 1
  refine uS fun i _=> ?_
  unfold PT.kidT PT.alt;rw[h9,NB]
 have hb:T.bar=iw 19 (T.lst.map PT.bar):=by
  rw[EK (by rw[uW,PT.lst_len];exact hl),T.bar_eq,h9]
  rfl
 have core:∀d,T.dep≤d+1→All s d (T.txt,T.bar):=fun d hd=>by
  obtain⟨r,hr⟩:=Dm (show 0 < T.len by omega)
  have jW:∀i ∈ List.range T.len,Alt d (Bf s d) s ((T.kid i).alt,(T.kid i).bar):=fun i hi=>by
   have hi':=List.mem_range.1 hi;have:=ry hi';exact(ih i hi').alt d (by split <;> omega)
  rw[hr] at jW;have key:= @GK d s ((T.kid 0).alt,(T.kid 0).bar) (r.map fun i=>((T.kid i).alt,(T.kid i).bar)) (fun y hy=>by
   rcases dU.1 hy with rfl | hy
   ·exact jW 0 (by simp)
   ·obtain⟨i,hi,rfl⟩:=List.mem_map.1 hy
    exact jW i (lY _ hi))
  have e3:(((T.kid 0).alt,(T.kid 0).bar)::r.map fun i=>((T.kid i).alt,(T.kid i).bar)).map (·.1)=T.lst.map PT.alt:=by
   rw[wa,hr,ib,ib,uY];rfl
  have e4:(((T.kid 0).alt,(T.kid 0).bar)::r.map fun i=>((T.kid i).alt,(T.kid i).bar)).map (·.2)=T.lst.map PT.bar:=by
   rw[wa,hr,ib,ib,uY];rfl
  intro i ha hs he;have k:= @key i (by rw[e3,←hx];exact ha) (by rw[e3,←hx];exact hs) (by rw[e3,←hx];exact he)
  rw[e3,e4,←hx,←hb] at k;exact k
 have e2:T.alt=40::T.txt++[41]:=by unfold PT.alt;rw[eW h9];rfl
 have e1:T.pie=40::T.txt++[41]:=by unfold PT.pie;rw[eW h9,Bool.true_or];rfl
 have pie:∀d,T.dep≤d→Pie d (Bf s d) s (40::T.txt++[41],T.bar):=fun d hd=>by
  have:=T.dep_pos;obtain⟨d',rfl⟩:∃d',d=d'+1:=⟨d - 1,by omega⟩
  exact GG (core d' hd)
 refine⟨fun d hd=> ?_,fun d hd=> ?_,core⟩
 ·rw[af (.inr h9)] at hd;rw[e1];exact pie d hd
 ·rw[af h9] at hd;rw[e2];exact B1 (pie d hd)
theorem rx {T:PT} (h:T.len=0):T.lst=[]:=kJ (by rw[PT.lst_len];exact h)
theorem yh {T:PT} (h:T.len=1):T.lst=[T.kid 0]:=by rw[zv,h];rfl
theorem MP {s:ByteArray}:∀T:PT,T.bad=0→Rds s T:=PT.ind fun T ih aA=>by
 obtain⟨he,hk⟩:=fR aA;obtain⟨k1,k24,ht,hn,dq,eI,gX⟩:=jy he;have ihk:∀i,i < T.len→Rds s (T.kid i):=fun i hi=>ih i hi (hk i hi)
 by_cases h8:T.k=18
 ·refine MN h8 ?_ ihk
  have:co T.k=2:=by unfold co;rw[af (.inl h8)]
  omega
 ·by_cases h9:T.k=19
  ·refine MO h9 ?_ ihk
   have:co T.k=2:=by unfold co;rw[af (.inr h9)]
   omega
  ·refine JV h8 h9 fun d hd=> ?_
   by_cases h1:T.k=1
   ·have hl0:T.len=0:=by
     have:cD T.k=0:=by unfold cD;rw[ac (by omega),ac (by omega)]
     omega
    rw[T.txt_eq k1,af h1,T.bar_eq,rx hl0,h1];exact Kd
   ·by_cases h21:T.k=21∨T.k=22
    ·have kO:T.len=1:=by
      have a:cD T.k=1:=by unfold cD;rw[ac (by omega),af (by omega)]
      have b:co T.k=1:=by unfold co;rw[ac (by omega),af (by omega)]
      omega
     have hdk:=ry (T:=T) (i:=0) (by omega)
     have hp:=(ihk 0 (by omega)).pie d (by split <;> omega)
     have hh:aE T.k=3:=by unfold aE;rw[ac (by omega),ac (by omega),af (by omega)]
     have hj:iJ [] T.kidT T.len=(T.kid 0).pie:=by
      rw[kO];show []++[]++T.kidT 0=_;unfold PT.kidT PT.pie;rw[FG _ _ (by omega)]
      rfl
     have ld:T.bar=aI T.k ⟨#[]⟩ 0 T.nm [(T.kid 0).bar]:=by
      rw[T.bar_eq,yh kO,hh];rfl
     rcases h21 with h21 | h22
     ·rw[T.txt_eq k1,ac h1,ac h8,ac h9,af h21,hj,ld,h21]
      exact Ds (dq hh) hp (.inl ⟨rfl,rfl⟩)
     ·rw[T.txt_eq k1,ac h1,ac h8,ac h9,ac (by omega),af h22,hj,ld,h22]
      exact Ds (dq hh) hp (.inr ⟨rfl,rfl⟩)
    ·by_cases h23:T.k=23∨T.k=24
     ·have hl0:T.len=0:=by
       have:cD T.k=0:=by unfold cD;rw[ac (by omega),ac (by omega)]
       omega
      have hh:aE T.k=3:=by unfold aE;rw[ac (by omega),ac (by omega),af (by omega)]
      have ld:T.bar=aI T.k ⟨#[]⟩ 0 T.nm []:=by
       rw[T.bar_eq,rx hl0,hh];rfl
      rcases h23 with h23 | h24
      ·rw[T.txt_eq k1,ac h1,ac h8,ac h9,ac (by omega),ac (by omega),af h23,ld,h23]
       exact Do (dq hh) (.inl ⟨rfl,rfl⟩)
      ·rw[T.txt_eq k1,ac h1,ac h8,ac h9,ac (by omega),ac (by omega),ac (by omega),af h24,ld,h24]
       exact Do (dq hh) (.inr ⟨rfl,rfl⟩)
     ·rw[T.txt_eq k1,ac h1,ac h8,ac h9,ac (by omega),ac (by omega),ac (by omega),ac (by omega)]
      obtain⟨K,hK⟩:∃K:Nat,T.k=(K:Int):=⟨T.k.toNat,by omega⟩
      rw[show T.k.toNat=K by omega]
      by_cases ju:T.k=20
      ·have kO:T.len=1:=by
        have a:cD T.k=1:=by unfold cD;rw[ac (by omega),af (by omega)]
        have b:co T.k=1:=by unfold co;rw[ac (by omega),af (by omega)]
        omega
       have hh:aE T.k=0:=by unfold aE;rw[ac (by omega),ac (by omega),ac (by omega)]
       have ld:T.bar=aI 20 ⟨#[]⟩ 0 ⟨#[]⟩ [(T.kid 0).bar]:=by
        rw[T.bar_eq,yh kO,hh,ju];rfl
       have hdk:=ry (T:=T) (i:=0) (by omega)
       have hdp:=(T.kid 0).dep_pos;obtain⟨d',rfl⟩:∃d',d=d'+1:=⟨d - 1,by omega⟩
       rw[ld,ac (by rw[hh];decide),ac (by rw[hh];decide),af ju,show K=20 by omega]
       exact KF ((ihk 0 (by omega)).all d' (by omega))
      ·have hl0:T.len=0:=by
        have:cD T.k=0:=by unfold cD;rw[ac (by omega),ac (by omega)]
        omega
       have hKr:(2≤K∧K≤17)∨K=20:=.inl (by omega)
       by_cases mM:aE T.k=2
       ·have ld:T.bar=aI K ⟨#[]⟩ T.n ⟨#[]⟩ []:=by
         rw[T.bar_eq,rx hl0,mM,hK];rfl
        rw[af mM,ld];exact J1 hKr (by rw[←hK];exact mM) (hn mM).1 (hn mM).2
       ·by_cases oc:aE T.k=1
        ·have ld:T.bar=aI K T.t 0 ⟨#[]⟩ []:=by
          rw[T.bar_eq,rx hl0,oc,hK];rfl
         rw[ac mM,af oc,ld];refine IR hKr (by rw[←hK];exact oc) fun h0=> ?_
         unfold bI at he;rw[ac (by omega),ac (by rintro⟨_,h⟩;have:=ht oc;omega),af ⟨oc,h1,h0⟩] at he
         omega
        ·have hh0:aE T.k=0:=by
          rcases DQ T.k with h | h | h | h
          ·exact h
          ·exact absurd h oc
          ·exact absurd h mM
          ·exfalso
           unfold aE at h;rw[ac (fun q=>oc (by unfold aE;rw[af q])),ac (fun q=>mM (by unfold aE;rw[ac (fun q'=>oc (by unfold aE;rw[af q'])),af q])),ac (by omega)] at h
           omega
         have h12:12≤K∧K≤17:=by
          unfold aE at hh0;split at hh0
          ·omega
          ·split at hh0
           ·omega
           ·omega
         have ld:T.bar=aI K ⟨#[]⟩ 0 ⟨#[]⟩ []:=by
          rw[T.bar_eq,rx hl0,hh0,hK];rfl
         rw[ac mM,ac oc,ac ju,ld];exact Jn h12
theorem NI:∀T:PT,T.bar.cnt=T.cnt:=sG fun T ih=>by
 rw[T.bar_eq,Fe,yn T,uv,uv,uY];exact aJ (fun l=>1+List.sum l) (uS fun x hx=>ih x hx)
theorem NH:∀T:PT,T.bar.dep=T.dep:=sG fun T ih=>by
 rw[T.bar_eq,Fd,xc T,zL ih]
theorem vO {T:PT} (h:T.wrong=0):T.fits=true∧T.bad=0:=by
 unfold PT.wrong at h
 by_cases hf:T.fits=true
 ·rw[af hf] at h;exact⟨hf,h⟩
 ·rw[ac hf] at h;omega
theorem Lh {T:PT} (h:T.wrong=0) (hl:T.txt.length≤65536):∃j,jq ⟨T.txt.toArray⟩=.ok (T.bar,j):=by
 obtain⟨hf,hb⟩:=vO h;obtain⟨s,hs⟩:∃s:ByteArray,s=⟨T.txt.toArray⟩:=⟨_,rfl⟩;have ay:s.size=T.txt.length:=by rw[hs];show T.txt.toArray.size=_;simp
 have hdep:T.dep≤200:=by
  unfold PT.fits at hf;rw[tj] at hf;exact mG hf.2
 obtain⟨D,hD⟩:∃D,D=200:=⟨_,rfl⟩;have he:aj s (0+T.txt.length)=0:=pz s _ (by omega)
 have hn:nx s (0+T.txt.length)=0:=by rw[kF (by omega),he]
 have hk:sk s (0+T.txt.length)=T.txt.length:=by rw[ji (by omega),oI]
 have key:=(MP (s:=s) T hb).all D (by omega) 0 (by rw[hs];exact GI T.txt) (.inr (.inr he)) (.inl hn)
 rw[show (T.txt,T.bar).1=T.txt from rfl,hk] at key;have hA:m5 s=.ok (T.bar,T.txt.length):=by
  have e:m5 s=bO (iY s D 0) fun p j=>if j < s.size then .error (2,j) else .ok (p,j):=by rw[hD];rfl
  rw[e,key,dE,ac (by omega)]
 refine⟨T.txt.length, ?_⟩;rw[←hs];unfold jq;rw[ac (by omega),hA,dE,af]
 unfold PT.fits;rw[NI,NH];exact hf
open Go.RowKit
def inP (b:Bool) (l:List It):List It:=if b then sg 40::(l++[sg 41]) else l
def jm (f:Nat→List It):Nat→List It
 | 0=>[]
 | i+1=>jm f i++((if 0 < i then [sg 44,bl] else [])++f i)
def lG (k:Int):UInt8:=if k=8 then 38 else if k=9 then 43 else if k=10 then 45 else if k=11 then 42 else if k=12 then 47 else 37
def exN (k:Int) (t:ByteArray) (n:Int) (nm:ByteArray) (len:Nat) (ki:Int→Nat→List It):List It:=
 if k=1 then [tx t] else if k=2 then [nu ⟨(Lib.itoa n).toArray⟩] else if k=3 then [wd nm]
 else if k=4 then wd nm::sg 60::(ki 0 0++[sg 62])
 else if k=5 then sg 36::ki 5 0
 else if k=6 then wd nm::sg 40::(jm (ki 0) len++[sg 41])
 else if k=7 then sg 45::ki 4 0
 else ki (bB k) 0++bl::sg (lG k)::bl::ki (bB k+1) 1
def PT.exI:PT→List It
 | .node k t n nm _ _ _ len _ kids=>exN k t n nm len fun lv=>kf len [] fun i=>inP (decide (bB (kids i).k < lv)) (PT.exI (kids i))
def PT.atl (T:PT) (lv:Int):List It:=inP (decide (bB T.k < lv)) T.exI
def PT.kidI (T:PT) (lv:Int) (i:Nat):List It:=if i < T.len then (T.kid i).atl lv else []
theorem PT.exI_eq (T:PT):T.exI=exN T.k T.t T.n T.nm T.len T.kidI:=by
 obtain⟨k,t,n,nm,xa,b,o,len,cap,kids⟩:=T;have h:(fun lv=>kf len [] fun i=>inP (decide (bB (kids i).k < lv)) (PT.exI (kids i)))=PT.kidI (PT.node k t n nm xa b o len cap kids):=by
  funext lv i
  unfold PT.kidI
  by_cases h:i < len
  ·rw[af h,PT.kid_at (T:=.node k t n nm xa b o len cap kids) h,sS h];rfl
  ·rw[ac h];unfold kf;rw[dif_neg h]
 show exN k t n nm len (fun lv=>kf len [] fun i=>inP (decide (bB (kids i).k < lv)) (PT.exI (kids i)))=_
 rw[h]
def PT.bex:PT→PT
 | .node k t n nm _ _ _ _ _ kids=>aI k (if k=1 then t else ByteArray.empty) (if k=2 then n else 0) (if bW k=true then nm else ByteArray.empty) (List.ofFn fun i=>PT.bex (kids i))
theorem PT.bex_eq (T:PT):T.bex=aI T.k (if T.k=1 then T.t else ByteArray.empty) (if T.k=2 then T.n else 0) (if bW T.k=true then T.nm else ByteArray.empty) (T.lst.map PT.bex):=by
 obtain⟨k,t,n,nm,xa,b,o,len,cap,kids⟩:=T;show aI k _ _ _ (List.ofFn fun i=>PT.bex (kids i))=aI k _ _ _ ((List.ofFn kids).map PT.bex)
 rw[List.map_ofFn];rfl
def PT.ns:PT→Prop
 | .node _ _ n _ _ _ _ _ _ kids=>n≤9223372036854775807∧∀i,PT.ns (kids i)
theorem Nb {T:PT} (h:T.ns):T.n≤9223372036854775807:=by cases T;exact h.1
theorem ns_kid {T:PT} (h:T.ns) {i:Nat} (hi:i < T.len):(T.kid i).ns:=by rw[PT.kid_at hi];cases T;exact h.2 ⟨i,hi⟩
theorem G2 {w:World}:∀T:PT,T.In w→T.ns:=PT.ind fun T ih h=>by
 have h1:=h.num.2;have h2:∀i,i < T.len→(T.kid i).ns:=fun i hi=>ih i hi (h.kids hi)
 obtain⟨k,t,n,nm,xa,b,o,len,cap,kids⟩:=T;exact⟨h1,fun i=>by have:=h2 i.1 i.2;rwa [PT.kid_at (T:=.node k t n nm xa b o len cap kids) i.2] at this⟩
def m6 (E:Nat) (p:Option Lv) (lv:Nat):List Tk→Sy PT:=if lv=5 then fi E p else kH E p lv
theorem GZ (E:Nat) (p:Option Lv):m6 E p 4=fC E p:=rfl
theorem xq (E:Nat) (p:Option Lv):m6 E p 5=fi E p:=rfl
theorem MV (E:Nat) (p:Option Lv) {lv:Nat} (h1:1≤lv) (h3:lv≤3):m6 E p lv=jT E lv (m6 E p (lv+1)):=by
 have:lv=1∨lv=2∨lv=3:=by omega
 rcases this with rfl | rfl | rfl <;> rfl
theorem prS_le (E:Nat) {p:Option Lv} (h:pG p) (lv:Nat) (l:List Tk):Le l.length (m6 E p lv l):=by
 unfold m6;split
 ·exact Ce h l
 ·exact BN h lv l
structure Cnd (E lv:Nat) (r:List Tk):Prop where
 lt:aM (ak E 0 r) (ah 60)=false
 br:aM (ak E 0 r) (ah 40)=false
 kb:∀m,lv≤m→m≤3→gF m (ak E 0 r)=0
theorem Cnd.up {E lv m:Nat} {r:List Tk} (h:Cnd E lv r) (hm:lv≤m):Cnd E m r:=⟨h.lt,h.br,fun k h1 h2=>h.kb k (by omega) h2⟩
def kX (E d lv:Nat) (its:List It) (x:PT):Prop:=∀i r,Cnd E lv r→m6 E (bV E d) lv (bs i its++r)=.ok (x,r)
def rwC (E d lv:Nat) (x:PT) (r:List Tk):Sy PT:=jU E lv (m6 E (bV E d) (lv+1)) (r.length+1) x r
def xv (E d lv:Nat) (its:List It) (x:PT):Prop:=∀i r,Cnd E (lv+1) r→m6 E (bV E d) lv (bs i its++r)=rwC E d lv x r
theorem K9 {E d lv:Nat} {x:PT} {r:List Tk} (hk:gF lv (ak E 0 r)≠0):rwC E d lv x r=aR (m6 E (bV E d) (lv+1) r.tail) fun y q=>rwC E d lv (kl (gF lv (ak E 0 r)) [x,y]) q:=D4 (prS_le E (Al d) (lv+1)) hk
section
variable {E d lv:Nat} {its:List It} {x:PT}
theorem kX.chain (h:kX E d (lv+1) its x) (h1:1≤lv) (h3:lv≤3):xv E d lv its x:=fun i r hc=>by
 rw[MV E _ h1 h3];unfold jT;rw[h i r hc,aT];rfl
theorem xv.reads (h:xv E d lv its x) (h3:lv≤3):kX E d lv its x:=fun i r hc=>by
 rw[h i r (hc.up (Nat.le_succ _))];exact D3 (hc.kb lv (ax _) h3)
def NoM (E:Nat) (its:List It):Prop:=∀i r,aM (ak E 0 (bs i its++r)) (ah 45)=false
theorem kX.signed (h:kX E d 5 its x) (hn:NoM E its):kX E d 4 its x:=fun i r hc=>by
 rw[GZ];unfold fC;rw[ac (by rw[hn i r];decide)]
 exact h i r (hc.up (by omega))
theorem kX.down (h:kX E d 5 its x) (hn:NoM E its):∀lv,1≤lv→lv≤5→kX E d lv its x:=by
 have r4:=h.signed hn;have r3:=(r4.chain (by decide) (by decide)).reads (by decide)
 have r2:=(r3.chain (by decide) (by decide)).reads (by decide)
 have r1:=(r2.chain (by decide) (by decide)).reads (by decide)
 intro lv h1 h5;have:lv=1∨lv=2∨lv=3∨lv=4∨lv=5:=by omega
 rcases this with rfl | rfl | rfl | rfl | rfl <;> assumption
end
theorem EP {b c:UInt8} (h:ah b=ah c):b=c:=by
 have:(#[b]:Array UInt8)= #[c]:=aJ ByteArray.data h
 simpa using this
theorem fS (b c:UInt8) (a:Nat):aM ⟨5,ah b,a⟩ (ah c)=decide (b=c):=by
 unfold aM;show (true && decide (ah b=ah c))=_;rw[Bool.true_and]
 by_cases h:b=c
 ·subst h;rw[eW rfl,eW rfl]
 ·rw[dh h,dh fun q=>h (EP q)]
theorem jz {k:Nat} {t s:ByteArray} {a:Nat} (h:k≠5):aM ⟨k,t,a⟩ s=false:=by
 unfold aM;show (decide (k=5) && _)=false;rw[dh h];rfl
theorem Nm (b:UInt8) (a:Nat):aM ⟨5,ah b,a⟩ jF=false:=by
 unfold aM;show (true && decide (ah b=jF))=_;rw[Bool.true_and];refine dh fun q=> ?_
 have:(#[b]:Array UInt8).size=2:=by rw[show (#[b]:Array UInt8)=jF.data from aJ ByteArray.data q];rfl
 exact absurd this (by simp)
theorem uE (E:Nat) (b:UInt8) (a:Nat) (l:List Tk):ee E (ah b) (⟨5,ah b,a⟩::l)=.ok ((),l):=by
 unfold ee;show (if aM ⟨5,ah b,a⟩ (ah b)=true then _ else _)=_;rw[fS,af (eW rfl)];rfl
theorem uD (E:Nat) {t:ByteArray} (h:bp t=true) (a:Nat) (l:List Tk):dO E (⟨1,t,a⟩::l)=.ok (t,l):=by
 unfold dO;show (if (1:Nat)=1 then (if bp t=true then Except.ok (t,l) else _) else _)=_;rw[af rfl,af h]
theorem gD (b:UInt8) (l:List It) (i:Nat):bs i (sg b::l)=⟨5,ah b,i⟩::bs (i+1) l:=rfl
theorem my (l:List It) (i:Nat):bs i (bl::l)=bs (i+1) l:=rfl
theorem nM (t:ByteArray) (l:List It) (i:Nat):bs i (wd t::l)=⟨1,t,i⟩::bs (i+t.data.toList.length) l:=rfl
theorem tk_nu (t:ByteArray) (l:List It) (i:Nat):bs i (nu t::l)=⟨2,t,i⟩::bs (i+t.data.toList.length) l:=rfl
theorem GU (t:ByteArray) (l:List It) (i:Nat):bs i (pa t::l)=⟨4,t,i⟩::bs (i+(91::(t.data.toList++[93])).length) l:=rfl
theorem qs (i:Nat):bs i []=[]:=rfl
theorem Nk {b:UInt8} (h:gT (ah b)=0) {m a:Nat} (_hm:1≤m):gF m ⟨5,ah b,a⟩=0:=by
 unfold gF;show (if (5:Nat)=5∧pF (gT (ah b))=m then gT (ah b) else 0)=0;rw[h];split <;> rfl
theorem Nl {k:Nat} {t:ByteArray} {m a:Nat} (h:k≠5):gF m ⟨k,t,a⟩=0:=by
 unfold gF;rw[ac fun q=>h q.1]
theorem we {E lv:Nat} {b:UInt8} (h:gT (ah b)=0) (h1:b≠60) (h2:b≠40) (a:Nat) (l:List Tk) (hl:1≤lv):Cnd E lv (⟨5,ah b,a⟩::l):=
 ⟨(fS b 60 a).trans (dh h1),(fS b 40 a).trans (dh h2),fun m h1 _=>Nk h (by omega)⟩
theorem Nv {E lv:Nat}:Cnd E lv []:=⟨jz (by decide),jz (by decide),fun _ _ _=>Nl (by decide)⟩
theorem EE:∀(n u:Nat),u < n→(Lib.decDigits u).foldl (fun m (b:UInt8)=>10 * m+(b.toNat - 48)) 0=u
 | 0,u,h=>by omega
 | n+1,u,h=>by
  by_cases q:u < 10
  ·have e:Lib.decDigits u=[UInt8.ofNat (48+u)]:=by rw[Lib.decDigits,dif_pos q]
   rw[e];show 10 * 0+((UInt8.ofNat (48+u)).toNat - 48)=u;rw[uT];omega
  ·have e:Lib.decDigits u=Lib.decDigits (u / 10)++[UInt8.ofNat (48+u % 10)]:=by rw[Lib.decDigits,dif_neg q]
   rw[e,List.foldl_append,EE n (u / 10) (by omega)]
   show 10 * (u / 10)+((UInt8.ofNat (48+u % 10)).toNat - 48)=u;rw[uT];omega
theorem nuS_at (E:Nat) {n:Int} (h0:0≤n) (h1:n≤9223372036854775807) (a:Nat) (l:List Tk):lW E (⟨2,⟨(Lib.itoa n).toArray⟩,a⟩::l)=.ok (n,l):=by
 have e:Lib.itoa n=Lib.decDigits n.toNat:=by unfold Lib.itoa;rw[ac (by omega)]
 rw[e];obtain⟨u,hu⟩:∃u,u=n.toNat:=⟨_,rfl⟩;have hn:n=(u:Int):=by omega
 rw[←hu,hn];have hv:nT ⟨(Lib.decDigits u).toArray⟩=u:=by
  unfold nT;rw[m7];exact EE (u+1) u (by omega)
 unfold lW;show (if 1 < (⟨(Lib.decDigits u).toArray⟩:ByteArray).size∧aj ⟨(Lib.decDigits u).toArray⟩ 0=48 then _ else if 9223372036854775807 < nT ⟨(Lib.decDigits u).toArray⟩ then _ else Except.ok ((nT ⟨(Lib.decDigits u).toArray⟩:Int),l))=_;rw[hv,ac,ac (by omega)]
 rintro⟨q1,q2⟩
 by_cases q:10≤u
 ·obtain⟨c,r,e1,e2⟩:=Bv (u+1) u (by omega) q
  rw[e1] at q2;exact e2 q2
 ·have:(Lib.decDigits u).length=1:=by rw[Lib.decDigits,dif_pos (by omega)];rfl
  have h2:(⟨(Lib.decDigits u).toArray⟩:ByteArray).size=(Lib.decDigits u).length:=by show (Lib.decDigits u).toArray.size=_;simp
  omega
open Go.RowKit
theorem zx (k:Int):∃L:Nat,bB k=(L:Int)∧1≤L∧L≤5:=by
 unfold bB;split
 ·exact⟨4,rfl,by omega,by omega⟩
 ·split
  ·exact⟨1,rfl,by omega,by omega⟩
  ·split
   ·exact⟨2,rfl,by omega,by omega⟩
   ·split
    ·exact⟨3,rfl,by omega,by omega⟩
    ·exact⟨5,rfl,by omega,by omega⟩
def HdT (t:Tk):Prop:=t.k=1∨t.k=2∨t.k=3∨(t.k=5∧(t.t=ah 36∨t.t=ah 45∨t.t=ah 40))
structure OwnX (E:Nat) (T:PT):Prop where
 hd:∀i r,HdT (ak E 0 (bs i T.exI++r))
 nm:bB T.k=5→NoM E T.exI
 pc:bB T.k=5→∀d,2 * T.dep≤d+2→kX E d 5 T.exI T.bex
 ng:bB T.k=4→∀d,2 * T.dep≤d+2→kX E d 4 T.exI T.bex
 ch:∀lv:Nat,1≤lv→lv≤3→bB T.k=(lv:Int)→∀d,2 * T.dep≤d+2→xv E d lv T.exI T.bex
section
variable {E d:Nat} {T:PT}
theorem kX.low {m:Nat} {its:List It} {x:PT} (h:kX E d m its x) (hm:m≤4):∀n lv,lv+n=m→1≤lv→kX E d lv its x
 | 0,lv,e,_=>by obtain rfl:lv=m:=e;exact h
 | n+1,lv,e,h1=>((kX.low h hm n (lv+1) (by omega) (by omega)).chain h1 (by omega)).reads (by omega)
theorem OwnX.bare (h:OwnX E T) {lv:Nat} (h1:1≤lv) (hl:(lv:Int)≤bB T.k) (hd:2 * T.dep≤d+2):kX E d lv T.exI T.bex:=by
 obtain⟨L,e,l1,l5⟩:=zx T.k;have eI:lv≤L:=by omega
 by_cases h5:L=5
 ·subst h5
  exact(h.pc e d hd).down (h.nm e) lv h1 (by omega)
 ·by_cases h4:L=4
  ·subst h4
   exact(h.ng e d hd).low (by omega) (4 - lv) lv (by omega) h1
  ·exact((h.ch L l1 (by omega) e d hd).reads (by omega)).low (by omega) (L - lv) lv (by omega) h1
theorem OwnX.bareChain (h:OwnX E T) {lv:Nat} (h1:1≤lv) (h3:lv≤3) (hl:(lv:Int)≤bB T.k) (hd:2 * T.dep≤d+2):xv E d lv T.exI T.bex:=by
 by_cases q:bB T.k=(lv:Int)
 ·exact h.ch lv h1 h3 q d hd
 ·exact(h.bare (lv:=lv+1) (by omega) (by omega) hd).chain h1 h3
theorem DX (E d:Nat) (l:List Tk):eV E (bV E (d+1)) l=m6 E (bV E d) 1 l:=rfl
theorem Ls (E d:Nat) (l:List Tk):rJ E (bV E (d+1)) l=m6 E (bV E d) 5 l:=rfl
theorem KY (E d:Nat) (l:List Tk):rI E (bV E (d+1)) l=m6 E (bV E d) 4 l:=rfl
theorem z6 (T:PT):1≤T.dep:=T.dep_pos
theorem OwnX.par (h:OwnX E T) (hd:2 * T.dep≤d+1):kX E d 5 (sg 40::(T.exI++[sg 41])) T.bex:=fun i r hc=>by
 have h1:=z6 T;obtain⟨d',rfl⟩:∃d',d=d'+1:=⟨d - 1,by omega⟩
 rw[gD,mt,gD,qs,List.cons_append,gg,xq];generalize i+1+(ar T.exI).length=j;have hb:=h.bare (lv:=1) (d:=d') (by omega) (by obtain⟨L,e,l1,_⟩:=zx T.k;omega) (by omega) (i+1) (⟨5,ah 41,j⟩::r) (we rfl (by decide) (by decide) _ _ (by omega))
 unfold fi;show (if (5:Nat)=1 then _ else if (5:Nat)=2 then _ else if (5:Nat)=3 then _ else if aM ⟨5,ah 40,i⟩ (ah 36)=true then _ else aR (ee E (ah 40) (⟨5,ah 40,i⟩::(bs (i+1) T.exI++(⟨5,ah 41,j⟩::r)))) _)=_;rw[ac (by decide),ac (by decide),ac (by decide),fS,ac (by decide),uE,aT,DX,hb,aT,uE,aT]
theorem Fc (its:List It):NoM E (sg 40::its):=fun i r=>by
 rw[gD];exact(fS 40 45 i).trans (dh (by decide))
theorem yo {lv:Int} (h:bB T.k < lv):T.atl lv=sg 40::(T.exI++[sg 41]):=by unfold PT.atl inP;rw[af (eW h)]
theorem wU {lv:Int} (h:¬bB T.k < lv):T.atl lv=T.exI:=by unfold PT.atl inP;rw[ac (by rw[dh h];decide)]
theorem ux (T:PT):T.atl 0=T.exI:=wU (by obtain⟨L,e,_,_⟩:=zx T.k;omega)
theorem OwnX.atl (h:OwnX E T) {lv:Nat} {lw:Int} (hw:lw=(lv:Int)) (h1:1≤lv) (h5:lv≤5) (hd:2 * T.dep≤d+1):kX E d lv (T.atl lw) T.bex:=by
 subst hw
 by_cases q:bB T.k < (lv:Int)
 ·rw[yo q]
  exact(h.par hd).down (Fc _) lv h1 h5
 ·rw[wU q]
  exact h.bare h1 (by omega) (by omega)
theorem OwnX.atlChain (h:OwnX E T) {lv:Nat} {lw:Int} (hw:lw=(lv:Int)) (h1:1≤lv) (h3:lv≤3) (hd:2 * T.dep≤d+1):xv E d lv (T.atl lw) T.bex:=by
 subst hw
 by_cases q:bB T.k < (lv:Int)
 ·rw[yo q]
  exact((h.par hd).down (Fc _) (lv+1) (by omega) (by omega)).chain h1 h3
 ·rw[wU q]
  exact h.bareChain h1 h3 (by omega) (by omega)
theorem OwnX.atlHd (h:OwnX E T) (lv:Int) (i:Nat) (r:List Tk):HdT (ak E 0 (bs i (T.atl lv)++r)):=by
 by_cases q:bB T.k < lv
 ·rw[yo q,gD]
  exact .inr (.inr (.inr ⟨rfl,.inr (.inr rfl)⟩))
 ·rw[wU q];exact h.hd i r
theorem OwnX.any (h:OwnX E T) (hd:2 * T.dep≤d+1) (i:Nat) (r:List Tk) (hc:Cnd E 1 r):eV E (bV E d) (bs i T.exI++r)=.ok (T.bex,r):=by
 have h1:=z6 T;obtain⟨d',rfl⟩:∃d',d=d'+1:=⟨d - 1,by omega⟩
 rw[DX];exact h.bare (by omega) (by obtain⟨L,e,l1,_⟩:=zx T.k;omega) (by omega) i r hc
end
def mD:List (List It)→List It
 | []=>[]
 | [x]=>x
 | x::y::r=>x++(sg 44::bl::mD (y::r))
theorem Ey:∀(l:List (List It)) (x:List It),mD (l++[x])=mD l++((if l=[] then [] else [sg 44,bl])++x)
 | [],x=>rfl
 | [a],x=>rfl
 | a::b::l,x=>by
  have ih:=Ey (b::l) x;rw[ac (by simp)] at ih ⊢
  show a++(sg 44::bl::mD (b::l++[x]))=(a++(sg 44::bl::mD (b::l)))++_;rw[ih];simp
theorem FL (f:Nat→List It):∀n,jm f n=mD ((List.range n).map f)
 | 0=>rfl
 | n+1=>by
  rw[jm,FL f n,List.range_succ,qA,List.map_singleton,Ey]
  by_cases h:n=0
  ·subst h;rfl
  ·rw[af (by omega),ac (by simpa using h)]
theorem FK {E:Nat} {p:Option Lv} {R:List Tk}:∀(L:List PT) (x:PT) (acc:List PT) (f i:Nat),(∀y ∈ x::L,∀i r,Cnd E 1 r→eV E p (bs i y.exI++r)=.ok (y.bex,r))→acc.length+(L.length+1)≤8→L.length < f→
  iA E p f acc (bs i (mD ((x::L).map PT.exI)++[sg 41])++R)=.ok (acc++(x::L).map PT.bex,R)
 | [],x,acc,f,i,hx,hl,hf=>by
  obtain⟨g,rfl⟩:∃g,f=g+1:=⟨f - 1,by simp at hf;omega⟩
  have h0:=hx x (by simp)
  show iA E p (g+1) acc (bs i (x.exI++[sg 41])++R)=_;rw[mt,gD,qs,gg,iA,ac (by simp at hl;omega)]
  generalize i+(ar x.exI).length=j;have e0:eV E p (bs i x.exI++([(⟨5,ah 41,j⟩:Tk)]++R))=.ok (x.bex,(⟨5,ah 41,j⟩:Tk)::R):=h0 i _ (we rfl (by decide) (by decide) _ _ (by omega))
  rw[e0,aT];show (if aM ⟨5,ah 41,j⟩ (ah 44)=true then _ else aR (ee E (ah 41) (⟨5,ah 41,j⟩::R)) _)=_;rw[fS,ac (by decide),uE,aT]
  rfl
 | y::L,x,acc,f,i,hx,hl,hf=>by
  obtain⟨g,rfl⟩:∃g,f=g+1:=⟨f - 1,by omega⟩
  have h0:=hx x (by simp)
  rw[List.length_cons] at hl hf;show iA E p (g+1) acc (bs i ((x.exI++(sg 44::bl::mD ((y::L).map PT.exI)))++[sg 41])++R)=_;rw[gg,mt,gg,iA,ac (by omega)]
  generalize i+(ar x.exI).length=j;show aR (eV E p (bs i x.exI++(⟨5,ah 44,j⟩::(bs (j+1+1) (mD ((y::L).map PT.exI)++[sg 41])++R)))) _=_;rw[h0 i _ (we rfl (by decide) (by decide) _ _ (by omega)),aT]
  show (if aM ⟨5,ah 44,j⟩ (ah 44)=true then iA E p g (acc++[x.bex]) (bs (j+1+1) (mD ((y::L).map PT.exI)++[sg 41])++R) else _)=_;rw[fS,af (by decide),FK L y (acc++[x.bex]) g (j+1+1) (fun z hz=>hx z (lY _ hz)) (by rw[bg,List.length_singleton];omega) (by omega),gg]
  rfl
theorem agS_at {E:Nat} {p:Option Lv} {R:List Tk} (l:List PT) (hl:l.length≤8) (i:Nat) (hx:∀y ∈ l,∀i r,Cnd E 1 r→eV E p (bs i y.exI++r)=.ok (y.bex,r)) (hh:∀y ∈ l,∀i r,HdT (ak E 0 (bs i y.exI++r))):
  mE E p (bs i (mD (l.map PT.exI)++[sg 41])++R)=.ok (l.map PT.bex,R):=by
 cases l with
 | nil=>
  unfold mE;show (if aM ⟨5,ah 41,i⟩ (ah 41)=true then Except.ok ([],R) else _)=_;rw[fS,af (by decide)];rfl
 | cons x L=>
  have h0:aM (ak E 0 (bs i (mD ((x::L).map PT.exI)++[sg 41])++R)) (ah 41)=false:=by
   have hq:∃q,mD ((x::L).map PT.exI)=x.exI++q:=by
    cases L with
    | nil=>exact⟨[],(k9 _).symm⟩
    | cons y L=>exact⟨_,rfl⟩
   obtain⟨q,hq⟩:=hq;have:=hh x (by simp) i (bs (i+(ar x.exI).length) (q++[sg 41])++R)
   rw[hq,gg,mt,gg]
   revert this
   generalize ak E 0 (bs i x.exI++(bs (i+(ar x.exI).length) (q++[sg 41])++R))=t;obtain⟨k,t,a⟩:=t;rintro(h | h | h | ⟨h,h2⟩)
   ·exact jz (by show k≠5;have h:k=1:=h;omega)
   ·exact jz (by show k≠5;have h:k=2:=h;omega)
   ·exact jz (by show k≠5;have h:k=3:=h;omega)
   ·have h:k=5:=h
    subst h;rcases h2 with h2 | h2 | h2
    ·have h2:t=ah 36:=h2
     subst h2;rw[fS];rfl
    ·have h2:t=ah 45:=h2
     subst h2;rw[fS];rfl
    ·have h2:t=ah 40:=h2
     subst h2;rw[fS];rfl
  unfold mE;rw[ac (by rw[h0];decide),FK L x [] 9 i hx (by simpa using hl) (by rw[List.length_cons] at hl;omega)]
  rfl
end Go.Proofs.YtlmnjbipfacniaaGreatDoor
