/- What is written is read: pieces and alternatives, from texts -/
import Derived.Test.YtlmnjbipfacniaaGreatDoorSyLeMs
import Derived.Test.YtlmnjbipfacniaaGreatDoorPatBelowPs
import Derived.Maps.AppendAt
namespace Go.Proofs.YtlmnjbipfacniaaGreatDoor
open Go.RowKit
theorem Ei (s:ByteArray):∀f g p i,i≤s.size→s.size < i+f→s.size < i+g→jd s f p i=jd s g p i
 | 0,g,p,i,hi,hf,_=>by omega
 | f+1,0,p,i,hi,_,hg=>by omega
 | f+1,g+1,p,i,hi,hf,hg=>by
  rw[jd,jd]
  by_cases q:jc (nx s i)=0
  ·rw[af q,af q]
  ·rw[ac q,ac q]
   have hn:nx s i≠0:=fun z=>q (by rw[z];rfl)
   have h3:=kW hn;have hsk:=eG s i hi
   cases hr:ib s (sk s i+1) with
   | error e=>rfl
   | ok v=>
    have h4:=v8 s (sk s i+1) v.1 v.2 (by omega) hr
    exact Ei s f g _ v.2 h4.2 (by omega) (by omega)
def gv (s:ByteArray) (p:PT) (i:Nat):Rd PT:=jd s (s.size+1) p i
theorem F0 {s:ByteArray} {p:PT} {i:Nat} (h:jc (nx s i)=0):gv s p i=.ok (p,sk s i):=by unfold gv;rw[jd,af h]
theorem MV {s:ByteArray} {p:PT} {i j:Nat} {t:ByteArray} (hi:i≤s.size) (h:jc (nx s i)≠0) (hn:ib s (sk s i+1)=.ok (t,j)):gv s p i=gv s (aP (jc (nx s i)) ⟨#[]⟩ 0 t [p]) j:=by
 have hx:=kW (s:=s) (i:=i) fun z=>h (by rw[z];rfl)
 have hsk:=eG s i hi;have h4:=v8 s (sk s i+1) t j (by omega) hn
 unfold gv;rw[jd,ac h,hn,dw];exact Ei s _ _ _ _ h4.2 (by omega) (by omega)
theorem Kd {d:Nat} {B:Nat→Rd PT} {s:ByteArray} {i:Nat} (h:aj s i=32):j3 d B s i=j3 d B s (i+1):=by unfold j3;rw[wR h,xS h]
theorem JA {d:Nat} {B:Nat→Rd PT} {s:ByteArray} {i:Nat} (h:aj s i=32):ia d B s i=ia d B s (i+1):=by unfold ia;rw[Kd h]
theorem JB {d:Nat} {B:Nat→Rd PT} {s:ByteArray} {i:Nat} (h:aj s i=32):iC d B s i=iC d B s (i+1):=by unfold iC;rw[JA h]
def En (s:ByteArray) (j:Nat):Prop:=nx s j=0∨nx s j=41
def Ec (s:ByteArray) (j:Nat):Prop:=En s j∨nx s j=124
theorem Ec.gv {s:ByteArray} {j:Nat} (h:Ec s j):jc (nx s j)=0:=by rcases h with (h | h) | h <;> rw[h] <;> rfl
theorem Ec.beg {s:ByteArray} {j:Nat} (h:Ec s j):kB (nx s j)=false:=by rcases h with (h | h) | h <;> rw[h] <;> rfl
theorem En.alt {s:ByteArray} {j:Nat} (h:En s j):nx s j≠124:=by rcases h with h | h <;> rw[h] <;> decide
theorem Gj {b:Nat} (h:kB b=true):jc b=0∧b≠32:=by
 unfold kB at h;unfold jc;constructor
 ·by_cases h1:b=46
  ·subst h1;exact absurd h (by decide)
  ·by_cases h2:b=36
   ·subst h2;exact absurd h (by decide)
   ·rw[ac h1,ac h2]
 ·intro e;subst e;exact absurd h (by decide)
def jn (sep:List UInt8):List (List UInt8)→List UInt8
 | []=>[]
 | [x]=>x
 | x::y::r=>x++(sep++jn sep (y::r))
theorem EZ (sep:List UInt8):∀(l:List (List UInt8)) (x:List UInt8),jn sep (l++[x])=jn sep l++(if l=[] then [] else sep)++x
 | [],x=>rfl
 | [a],x=>by show a++(sep++x)=_;simp[jn]
 | a::b::l,x=>by
  have ih:=EZ sep (b::l) x;rw[ac (by simp)] at ih ⊢
  show a++(sep++jn sep (b::l++[x]))=(a++(sep++jn sep (b::l)))++sep++x;rw[ih];simp
theorem A4 (sep:List UInt8) (f:Nat→List UInt8):∀n,iy sep f n=jn sep ((List.range n).map f)
 | 0=>rfl
 | n+1=>by
  rw[iy,A4 sep f n,List.range_succ,oU,List.map_singleton,EZ]
  by_cases h:n=0
  ·subst h;simp
  ·rw[af (by omega),ac (by simpa using h)]
structure Pie (d:Nat) (B:Nat→Rd PT) (s:ByteArray) (x:List UInt8 × PT):Prop where
 reads:∀i,At s i x.1→iP s (i+x.1.length)→ia d B s i=gv s x.2 (i+x.1.length)
 begins:∃c r,x.1=c::r∧kB c.toNat=true
theorem Pie.start {d:Nat} {B:Nat→Rd PT} {s:ByteArray} {x:List UInt8 × PT} (h:Pie d B s x) {i:Nat} {t:List UInt8} (ha:At s i (x.1++t)):kB (aj s i)=true∧aj s i≠32∧jc (aj s i)=0:=by
 obtain⟨c,r,e,hb⟩:=h.begins;rw[e] at ha;have:=ha.head.1;rw[this];exact⟨hb,(Gj hb).2,(Gj hb).1⟩
theorem Ef (sep:List UInt8) (x:List UInt8) (l:List (List UInt8)):∃t,jn sep (x::l)=x++t:=by
 cases l with
 | nil=>exact⟨[],(lf _).symm⟩
 | cons y r=>exact⟨_,rfl⟩
theorem Fe {d:Nat} {B:Nat→Rd PT} {s:ByteArray}:∀(L:List (List UInt8 × PT)) (x:List UInt8 × PT) (acc:List PT) (f i:Nat),(∀y ∈ x::L,Pie d B s y)→At s i (jn [32] ((x::L).map (·.1)))→iP s (i+(jn [32] ((x::L).map (·.1))).length)→Ec s (i+(jn [32] ((x::L).map (·.1))).length)→s.size < i+f→
  (bJ (ia d B s i) fun p j=>mA d B s f (acc++[p]) j)=.ok (acc++(x::L).map (·.2),sk s (i+(jn [32] ((x::L).map (·.1))).length))
 | [],x,acc,f,i,hp,ha,hs,he,hf=>by
  have hx:=hp x (by simp)
  obtain⟨f',rfl⟩:∃f',f=f'+1:=⟨f - 1,by have:=ha.le;omega⟩
  have hs':iP s (i+x.1.length):=hs;have he':Ec s (i+x.1.length):=he;rw[hx.reads i ha hs',F0 he'.gv,dw,mA];have e:nx s (sk s (i+x.1.length))=nx s (i+x.1.length):=GA _ _;show (if kB (nx s (sk s (i+x.1.length)))=true then _ else _)=_;rw[e,ac (by rw[he'.beg];decide),Ch]
  rfl
 | y::L,x,acc,f,i,hp,ha,hs,he,hf=>by
  have hx:=hp x (by simp)
  have hy:=hp y (by simp)
  have ha':At s i (x.1++([32]++jn [32] ((y::L).map (·.1)))):=ha
  have bU:(jn [32] ((x::y::L).map (·.1))).length=x.1.length+(1+(jn [32] ((y::L).map (·.1))).length):=by
   show (x.1++(([32]:List UInt8)++jn [32] ((y::L).map fun z=>z.1))).length=_
   simp only[be,List.length_cons,List.length_nil]
  have iU:aj s (i+x.1.length)=32:=ha'.right.head.1;have hr:At s (i+x.1.length+1) (jn [32] ((y::L).map (·.1))):=ha'.right.tail
  obtain⟨t,ht⟩:=Ef [32] y.1 (L.map (·.1))
  have bg:=hy.start (show At s (i+x.1.length+1) (y.1++t) by rw[←ht];exact hr)
  have l9:nx s (i+x.1.length)=aj s (i+x.1.length+1):=by rw[xS iU,ky bg.2.1]
  have sr:sk s (i+x.1.length)=i+x.1.length+1:=by rw[wR iU,iY bg.2.1]
  obtain⟨f',rfl⟩:∃f',f=f'+1:=⟨f - 1,by have:=ha.le;omega⟩
  rw[hx.reads i ha'.left (.inl iU),F0 (by rw[l9];exact bg.2.2),dw,mA,sr]
  rw[ky bg.2.1,iY bg.2.1,af bg.1];have e:i+(jn [32] ((x::y::L).map (·.1))).length=i+x.1.length+1+(jn [32] ((y::L).map (·.1))).length:=by omega
  rw[e] at hs he ⊢;have ih:=Fe L y (acc++[x.2]) f' (i+x.1.length+1) (fun z hz=>hp z (kH _ hz)) hr hs he (by omega)
  rw[ih,fT];rfl
structure Alt (d:Nat) (B:Nat→Rd PT) (s:ByteArray) (x:List UInt8 × PT):Prop where
 reads:∀i,At s i x.1→iP s (i+x.1.length)→Ec s (i+x.1.length)→iC d B s i=.ok (x.2,sk s (i+x.1.length))
 begins:∃c r,x.1=c::r∧kB c.toNat=true
theorem Ft {d:Nat} {B:Nat→Rd PT} {s:ByteArray}:∀(L:List (List UInt8 × PT)) (x:List UInt8 × PT) (acc:List PT) (f i:Nat),(∀y ∈ x::L,Alt d B s y)→At s i (jn [32,124,32] ((x::L).map (·.1)))→iP s (i+(jn [32,124,32] ((x::L).map (·.1))).length)→En s (i+(jn [32,124,32] ((x::L).map (·.1))).length)→s.size < i+f→
  (bJ (iC d B s i) fun p j=>mF d B s f (acc++[p]) j)=.ok (acc++(x::L).map (·.2),sk s (i+(jn [32,124,32] ((x::L).map (·.1))).length))
 | [],x,acc,f,i,hp,ha,hs,he,hf=>by
  have hx:=hp x (by simp)
  obtain⟨f',rfl⟩:∃f',f=f'+1:=⟨f - 1,by have:=ha.le;omega⟩
  have hs':iP s (i+x.1.length):=hs;have he':En s (i+x.1.length):=he;rw[hx.reads i ha hs' (.inl he'),dw,mF];have e:nx s (sk s (i+x.1.length))=nx s (i+x.1.length):=GA _ _;show (if nx s (sk s (i+x.1.length))=124 then _ else _)=_;rw[e,ac he'.alt,Ch];rfl
 | y::L,x,acc,f,i,hp,ha,hs,he,hf=>by
  have hx:=hp x (by simp)
  have hy:=hp y (by simp)
  have ha':At s i (x.1++([32,124,32]++jn [32,124,32] ((y::L).map (·.1)))):=ha
  have bU:(jn [32,124,32] ((x::y::L).map (·.1))).length=x.1.length+(3+(jn [32,124,32] ((y::L).map (·.1))).length):=by
   show (x.1++(([32,124,32]:List UInt8)++jn [32,124,32] ((y::L).map fun z=>z.1))).length=_
   simp only[be,List.length_cons,List.length_nil]
  have iU:aj s (i+x.1.length)=32:=ha'.right.head.1;have h124:aj s (i+x.1.length+1)=124:=ha'.right.tail.head.1;have h33:aj s (i+x.1.length+1+1)=32:=ha'.right.tail.tail.head.1;have hr:At s (i+x.1.length+1+1+1) (jn [32,124,32] ((y::L).map (·.1))):=ha'.right.tail.tail.tail
  have l9:nx s (i+x.1.length)=124:=by rw[xS iU,ky (by omega),h124]
  have sr:sk s (i+x.1.length)=i+x.1.length+1:=by rw[wR iU,iY (by omega)]
  obtain⟨f',rfl⟩:∃f',f=f'+1:=⟨f - 1,by have:=ha.le;omega⟩
  rw[hx.reads i ha'.left (.inl iU) (.inr l9),dw,mF,sr];rw[ky (by omega),af h124,iY (by omega),JB h33]
  have e:i+(jn [32,124,32] ((x::y::L).map (·.1))).length=i+x.1.length+1+1+1+(jn [32,124,32] ((y::L).map (·.1))).length:=by omega
  rw[e] at hs he ⊢;have ih:=Ft L y (acc++[x.2]) f' (i+x.1.length+1+1+1) (fun z hz=>hp z (kH _ hz)) hr hs he (by omega)
  rw[ih,fT];rfl
open Go.RowKit
theorem AN {f:Nat→Int}:∀{n:Nat},gH f n=0→∀i,i < n→f i=0
 | 0,_,i,hi=>absurd hi (Nat.not_lt_zero i)
 | n+1,h,i,hi=>by
  unfold gH at h;split at h
  ·rename_i h0
   rcases cG i n with h1 | h1
   ·exact AN h0 i h1
   ·rw[show i=n by omega];exact h
  ·rename_i h0
   exact absurd h h0
theorem fG {T:PT} (h:T.bad=0):bM T=0∧∀i,i < T.len→(T.kid i).bad=0:=by
 rw[T.bad_eq] at h;split at h
 ·rename_i h0
  exact⟨h0,AN h⟩
 ·rename_i h0
  exact absurd h h0
theorem ze {T:PT} (h:bM T=0) (hk:21≤T.k∧T.k≤24):T.nm.size≤16:=by
 have hn:ca T.nm=true:=by
  cases hq:ca T.nm with
  | true=>rfl
  | false=>
   have:bM T=7:=by
    have e:aO T.k=3:=by unfold aO;rw[ac (by omega),ac (by omega),af hk]
    unfold bM;rw[ac (by omega),ac (by omega),ac (by omega),ac (by omega),af ⟨e,hq⟩]
   omega
 unfold ca at hn;simp at hn;exact hn.1
theorem jo {T:PT} (h:bM T=0):1≤T.k∧T.k≤24∧(aO T.k=1→T.t.size≤65536)∧(aO T.k=2→0≤T.n∧T.n≤65536)∧(aO T.k=3→ca T.nm=true)∧cK T.k≤T.len∧(T.len:Int)≤cM T.k:=by
 unfold bM at h;split at h
 ·omega
 ·split at h
  ·omega
  ·split at h
   ·omega
   ·split at h
    ·omega
    ·split at h
     ·omega
     ·split at h
      ·omega
      ·rename_i h1 h2 h3 h4 h5 h6
       refine⟨by omega,by omega,fun x=>by omega,fun x=>by omega,fun x=> ?_,by omega,by omega⟩
       cases hn:ca T.nm with
       | true=>rfl
       | false=>exact absurd ⟨x,hn⟩ h5
open Go.RowKit
def PT.bar:PT→PT
 | .node k t n nm _ _ _ _ _ kids=>aP k (if aO k=1 then t else ⟨#[]⟩) (if aO k=2 then n else 0) (if aO k=3 then nm else ⟨#[]⟩) (List.ofFn fun i=>PT.bar (kids i))
theorem PT.bar_eq (T:PT):T.bar=aP T.k (if aO T.k=1 then T.t else ⟨#[]⟩) (if aO T.k=2 then T.n else 0) (if aO T.k=3 then T.nm else ⟨#[]⟩) (T.lst.map PT.bar):=by
 obtain⟨k,t,n,nm,xa,b,o,len,cap,kids⟩:=T;show aP k _ _ _ (List.ofFn fun i=>PT.bar (kids i))=aP k _ _ _ ((List.ofFn kids).map PT.bar)
 rw[List.map_ofFn];rfl
theorem zp (T:PT):T.lst=(List.range T.len).map T.kid:=by
 apply List.ext_getElem?;intro i
 by_cases h:i < T.len
 ·rw[PT.lst_at h,qb,List.getElem?_range h];rfl
 ·rw[wq (by rw[PT.lst_len];omega),wq (by simp;omega)]
def PT.pie (T:PT):List UInt8:=rZ (decide (T.k=19) || decide (T.k=18)) T.txt
def PT.alt (T:PT):List UInt8:=rZ (decide (T.k=19)) T.txt
def Bf (s:ByteArray):Nat→Nat→Rd PT
 | 0=>fun j=>.error (0,j)
 | d+1=>jL s d
theorem alD_eq (s:ByteArray) (d i:Nat):jL s d i=m9 d (Bf s d) s i:=by cases d <;> rfl
theorem pcP_as {d:Nat} {B:Nat→Rd PT} {s:ByteArray} {i:Nat}:iC d B s i=bJ (bJ (ia d B s i) fun p j=>mA d B s (s.size+1) ([]++[p]) j) fun l e=>.ok (iB 18 l,e):=by
 unfold iC
 cases ia d B s i <;> rfl
theorem alP_as {d:Nat} {B:Nat→Rd PT} {s:ByteArray} {i:Nat}:m9 d B s i=bJ (bJ (iC d B s i) fun p j=>mF d B s (s.size+1) ([]++[p]) j) fun l e=>.ok (iB 19 l,e):=by
 unfold m9
 cases iC d B s i <;> rfl
theorem Lm {sep:List UInt8} {x:List UInt8} {l:List (List UInt8)} (h:∃c r,x=c::r∧kB c.toNat=true):∃c r,jn sep (x::l)=c::r∧kB c.toNat=true:=by
 obtain⟨c,r,e,hb⟩:=h;obtain⟨t,ht⟩:=Ef sep x l;exact⟨c,r++t,by rw[ht,e];rfl,hb⟩
theorem Gl {d:Nat} {B:Nat→Rd PT} {s:ByteArray} (x:List UInt8 × PT) (L:List (List UInt8 × PT)) (h:∀y ∈ x::L,Pie d B s y):Alt d B s (jn [32] ((x::L).map (·.1)),iB 18 ((x::L).map (·.2))):=
 ⟨fun i ha hs he=>by rw[pcP_as,Fe L x [] (s.size+1) i h ha hs he (by omega),dw];rfl,Lm (h x (by simp)).begins⟩
theorem Gm {d:Nat} {s:ByteArray} (x:List UInt8 × PT) (L:List (List UInt8 × PT)) (h:∀y ∈ x::L,Alt d (Bf s d) s y) {i:Nat} (ha:At s i (jn [32,124,32] ((x::L).map (·.1)))) (hs:iP s (i+(jn [32,124,32] ((x::L).map (·.1))).length)) (he:En s (i+(jn [32,124,32] ((x::L).map (·.1))).length)):
  jL s d i=.ok (iB 19 ((x::L).map (·.2)),sk s (i+(jn [32,124,32] ((x::L).map (·.1))).length)):=by
 rw[alD_eq,alP_as,Ft L x [] (s.size+1) i h ha hs he (by omega),dw];rfl
def All (s:ByteArray) (d:Nat) (x:List UInt8 × PT):Prop:=∀i,At s i x.1→iP s (i+x.1.length)→En s (i+x.1.length)→jL s d i=.ok (x.2,sk s (i+x.1.length))
theorem FP {s:ByteArray} {d:Nat} {x:List UInt8 × PT} (h:All s d x) {i:Nat} (ha:At s i (40::x.1++[41])):jZ (d+1) (Bf s (d+1)) s i=.ok (x.2,i+x.1.length+2):=by
 have ha':At s i ([40]++(x.1++[41])):=ha;have ie:aj s i=40:=ha'.head.1;have h1:=ha'.right;have vq:aj s (i+1+x.1.length)=41:=h1.right.head.1;have hn:nx s (i+1+x.1.length)=41:=by rw[ky (by omega),vq]
 have hr:=h (i+1) h1.left (.inr (.inl vq)) (.inr hn);unfold jZ;rw[show ez s 40 i=.ok ((),i+1) by unfold ez;rw[ky (by omega),ie,af rfl,iY (by omega)],dw,ac (by omega)]
 show bJ (jL s d (i+1)) _=_;rw[hr,dw,iY (by omega),show ez s 41 (i+1+x.1.length)=.ok ((),i+1+x.1.length+1) by unfold ez;rw[hn,af rfl,iY (by omega)],dw]
 congr 2
 omega
theorem Gi {s:ByteArray} {d:Nat} {x:List UInt8 × PT} (h:All s d x):Pie (d+1) (Bf s (d+1)) s (40::x.1++[41],x.2):=
 ⟨fun i ha hs=>by
  have ie:aj s i=40:=(At.head (l:=x.1++[41]) ha).1;unfold ia j3;rw[ky (by omega),ie,ac (by decide),af rfl,iY (by omega),FP h ha,dw]
  show gv s x.2 (i+x.1.length+2)=gv s x.2 (i+(40::x.1++[41]).length)
  congr 1
  simp;omega,⟨40,x.1++[41],rfl,rfl⟩⟩
theorem C3 {b:Nat} (h:dj b=true):kB b=true∧b≠32∧b≠39∧b≠40∧b≠64∧b≠42:=by
 have:=nf h;refine⟨by unfold kB;rw[h];rfl, ?_, ?_, ?_, ?_, ?_⟩ <;> omega
theorem zb {d:Nat} {B:Nat→Rd PT} {s:ByteArray} {k:Nat} (hk:(2≤k∧k≤17)∨k=20) {tl:List UInt8} {p:PT} (h:∀i,At s i ((aT k).data.toList++tl)→iP s (i+((aT k).data.toList++tl).length)→cn s i=i+(aT k).size→fK d B s i=.ok (p,i+((aT k).data.toList++tl).length)) (ht:∀c r,tl=c::r→dB c.toNat=false):Pie d B s ((aT k).data.toList++tl,p):=by
 obtain⟨hw,c,r,hc,hl⟩:=De k hk;have ay:(aT k).data.toList.length=(aT k).size:=by simp
 refine⟨fun i ha hs=> ?_,c,r++tl,by show (aT k).data.toList++tl=_;rw[hc];rfl,(C3 hl).1⟩
 have ha':At s i ((aT k).data.toList++tl):=ha;have ha2:=ha';rw[hc] at ha2;have hb:aj s i=c.toNat:=ha2.head.1;obtain⟨-,n32,n39,n40,n64,n42⟩:=C3 hl;have hnw:dB (aj s (i+(aT k).data.toList.length))=false:=by
  cases tl with
  | nil=>
       have:iP s (i+(aT k).data.toList.length):=by simpa using hs
       exact this.word
  | cons c' r'=>rw[ha'.right.head.1];exact ht c' r' rfl
 have hE:cn s i=i+(aT k).size:=by
  rw[←ay];exact xf _ i (fun j hj=>⟨by have:=ha'.left.le;omega,by rw[ha'.left.get hj];exact hw _ (uL hj)⟩) hnw
 unfold ia j3;rw[ky (by omega),hb,ac n39,ac n40,ac n64,ac n42,af hl,iY (by omega),h i ha' hs hE,dw]
 rfl
theorem AO {c:UInt8} (h:c=40):dB c.toNat=false:=by subst h;rfl
theorem zP {s:ByteArray} {k i:Nat} (hk:(2≤k∧k≤17)∨k=20) {tl:List UInt8} (ha:At s i ((aT k).data.toList++tl)):kz (s.extract i (i+(aT k).size))=k:=by
 have ay:(aT k).data.toList.length=(aT k).size:=by simp
 have:=AV ha.left;rw[ay] at this;rw[this];exact I0 k hk
theorem JE {d:Nat} {B:Nat→Rd PT} {s:ByteArray} {k:Nat} (hk:(2≤k∧k≤17)∨k=20) (h2:aO (k:Int)=2) {n:Int} (h0:0≤n) (hn:n≤65536):Pie d B s ((aT k).data.toList++(40::Lib.itoa n++[41]),aP k ⟨#[]⟩ n ⟨#[]⟩ []):=by
 have ei:k≠0:=by omega
 have hk20:k≠20:=by rintro rfl;exact absurd h2 (by decide)
 have ay:(aT k).data.toList.length=(aT k).size:=by simp
 refine zb hk (fun i ha hs hE=> ?_) (fun c r e=>AO (by cases e;rfl))
 have h1:=ha.right;rw[ay] at h1;have ie:aj s (i+(aT k).size)=40:=h1.head.1;have h3:At s (i+(aT k).size+1) (Lib.itoa n++[41]):=h1.tail;have vq:aj s (i+(aT k).size+1+(Lib.itoa n).length)=41:=h3.right.head.1;unfold fK;rw[hE,zP hk ha,ac ei,ac hk20,af h2];rw[show ez s 40 (i+(aT k).size)=.ok ((),i+(aT k).size+1) by unfold ez;rw[ky (by omega),ie,af rfl,iY (by omega)],dw]
 rw[nuP_at h0 hn h3.left (.inr (.inl vq)),dw];rw[show ez s 41 (i+(aT k).size+1+(Lib.itoa n).length)=.ok ((),i+(aT k).size+1+(Lib.itoa n).length+1) by unfold ez;rw[ky (by omega),vq,af rfl,iY (by omega)],dw]
 rw[show ((n.toNat:Nat):Int)=n by omega]
 congr 2
 simp;omega
theorem Ip {d:Nat} {B:Nat→Rd PT} {s:ByteArray} {k:Nat} (hk:(2≤k∧k≤17)∨k=20) (h1:aO (k:Int)=1) {t:ByteArray} (ht:t.size≠0):Pie d B s ((aT k).data.toList++(40::et t.data.toList++[41]),aP k t 0 ⟨#[]⟩ []):=by
 have ei:k≠0:=by omega
 have hk20:k≠20:=by rintro rfl;exact absurd h1 (by decide)
 have ay:(aT k).data.toList.length=(aT k).size:=by simp
 refine zb hk (fun i ha hs hE=> ?_) (fun c r e=>AO (by cases e;rfl))
 have h1':=ha.right;rw[ay] at h1';have ie:aj s (i+(aT k).size)=40:=h1'.head.1;have h3:At s (i+(aT k).size+1) (et t.data.toList++[41]):=h1'.tail;have vq:aj s (i+(aT k).size+1+(et t.data.toList).length)=41:=h3.right.head.1;unfold fK;rw[hE,zP hk ha,ac ei,ac hk20,ac (by rw[h1];decide),af h1]
 rw[show ez s 40 (i+(aT k).size)=.ok ((),i+(aT k).size+1) by unfold ez;rw[ky (by omega),ie,af rfl,iY (by omega)],dw]
 rw[fiP_at h3.left ht (.inr (.inl vq)),dw];rw[show ez s 41 (i+(aT k).size+1+(et t.data.toList).length)=.ok ((),i+(aT k).size+1+(et t.data.toList).length+1) by unfold ez;rw[ky (by omega),vq,af rfl,iY (by omega)],dw]
 congr 2
 simp;omega
theorem IZ {d:Nat} {B:Nat→Rd PT} {s:ByteArray} {k:Nat} (hk:12≤k∧k≤17):Pie d B s ((aT k).data.toList++[],aP k ⟨#[]⟩ 0 ⟨#[]⟩ []):=by
 have hk':(2≤k∧k≤17)∨k=20:=.inl (by omega)
 have h0:aO (k:Int)=0:=by unfold aO;rw[ac (by omega),ac (by omega),ac (by omega)]
 have ay:(aT k).data.toList.length=(aT k).size:=by simp
 refine zb hk' (fun i ha hs hE=> ?_) (fun c r e=>by cases e)
 unfold fK;rw[hE,zP hk' ha,ac (by omega),ac (by omega),ac (by rw[h0];decide),ac (by rw[h0];decide),lf,ay]
theorem Ke {d:Nat} {s:ByteArray} {x:List UInt8 × PT} (h:All s d x):Pie (d+1) (Bf s (d+1)) s ((aT 20).data.toList++(40::x.1++[41]),aP 20 ⟨#[]⟩ 0 ⟨#[]⟩ [x.2]):=by
 have hk':(2≤20∧20≤17)∨20=20:=.inr rfl;have ay:(aT 20).data.toList.length=(aT 20).size:=by simp
 refine zb hk' (fun i ha hs hE=> ?_) (fun c r e=>AO (by cases e;rfl))
 have h1:=ha.right;rw[ay] at h1;unfold fK;rw[hE,zP hk' ha,ac (by decide),af rfl,FP h h1,dw]
 congr 2
 simp;omega
theorem JQ {d:Nat} {B:Nat→Rd PT} {s:ByteArray} {t:ByteArray}:Pie d B s (et t.data.toList,aP 1 t 0 ⟨#[]⟩ []):=
 ⟨fun i ha hs=>by
  have gm:aj s i=39:=(At.head (l:=_) ha).1;unfold ia j3;rw[ky (by omega),gm,af rfl,iY (by omega),FE ha hs,dw,dw]
  rfl,⟨39,_,rfl,rfl⟩⟩
theorem C2 {d:Nat} {B:Nat→Rd PT} {s:ByteArray} {nm:ByteArray} (hn:ca nm=true) {c:UInt8} {k:Int} (hc:(c=64∧k=23)∨(c=42∧k=24)):Pie d B s (c::nm.data.toList,aP k ⟨#[]⟩ 0 nm []):=
 ⟨fun i ha hs=>by
  have hb:aj s i=c.toNat:=ha.head.1;have bU:(c::nm.data.toList).length=nm.size+1:=by simp
  have hs':iP s (i+1+nm.size):=by
   have:iP s (i+(c::nm.data.toList).length):=hs;rw[bU,show i+(nm.size+1)=i+1+nm.size by omega] at this
   exact this
  have hr:=FX hn ha.tail hs';unfold ia j3;rcases hc with ⟨rfl,rfl⟩ | ⟨rfl,rfl⟩
  ·have hb':aj s i=64:=hb
   rw[ky (by omega),hb',ac (by decide),ac (by decide),af rfl,iY (by omega),hr,dw,dw]
   show gv s _ (i+1+nm.size)=gv s _ (i+(64::nm.data.toList).length);rw[show i+(64::nm.data.toList).length=i+1+nm.size by simp;omega]
  ·have hb':aj s i=42:=hb
   rw[ky (by omega),hb',ac (by decide),ac (by decide),ac (by decide),af rfl,iY (by omega),hr,dw,dw]
   show gv s _ (i+1+nm.size)=gv s _ (i+(42::nm.data.toList).length);rw[show i+(42::nm.data.toList).length=i+1+nm.size by simp;omega],⟨c,_,rfl,by rcases hc with ⟨rfl,_⟩ | ⟨rfl,_⟩ <;> rfl⟩⟩
theorem C7 {d:Nat} {B:Nat→Rd PT} {s:ByteArray} {nm:ByteArray} (hn:ca nm=true) {x:List UInt8 × PT} (hx:Pie d B s x) {c:UInt8} {k:Int} (hc:(c=46∧k=21)∨(c=36∧k=22)):Pie d B s (x.1++[32,c,32]++nm.data.toList,aP k ⟨#[]⟩ 0 nm [x.2]):=by
 obtain⟨c0,r0,e0,bd⟩:=hx.begins;refine⟨fun i ha hs=> ?_,c0,r0++[32,c,32]++nm.data.toList,by show x.1++_++_=_;rw[e0];rfl,bd⟩
 have ha':At s i (x.1++([32,c,32]++nm.data.toList)):=by rw[←fT];exact ha
 have iU:aj s (i+x.1.length)=32:=ha'.right.head.1;have hcb:aj s (i+x.1.length+1)=c.toNat:=ha'.right.tail.head.1;have h33:aj s (i+x.1.length+1+1)=32:=ha'.right.tail.tail.head.1;have dm:At s (i+x.1.length+1+1+1) nm.data.toList:=ha'.right.tail.tail.tail;have bU:(x.1++[32,c,32]++nm.data.toList).length=x.1.length+3+nm.size:=by simp;omega
 have hs':iP s (i+x.1.length+1+1+1+nm.size):=by
  have:iP s (i+(x.1++[32,c,32]++nm.data.toList).length):=hs;rw[bU,show i+(x.1.length+3+nm.size)=i+x.1.length+1+1+1+nm.size by omega] at this
  exact this
 have jQ:jc c.toNat=k.toNat∧k=(jc c.toNat:Int)∧c.toNat≠32∧jc c.toNat≠0:=by
  rcases hc with ⟨rfl,rfl⟩ | ⟨rfl,rfl⟩ <;> decide
 have hnx:nx s (i+x.1.length)=c.toNat:=by rw[xS iU,ky (by rw[hcb];exact jQ.2.2.1),hcb]
 have hsk:sk s (i+x.1.length)=i+x.1.length+1:=by rw[wR iU,iY (by rw[hcb];exact jQ.2.2.1)]
 have hr:=FX hn dm hs';have eN:=ha'.left.le;rw[hx.reads i ha'.left (.inl iU),MV (j:=i+x.1.length+1+1+1+nm.size) (t:=nm) eN (by rw[hnx];exact jQ.2.2.2) (by rw[hsk,JL h33];exact hr),hnx,←jQ.2.1]
 show gv s _ _=gv s _ (i+(x.1++[32,c,32]++nm.data.toList).length);rw[bU,show i+(x.1.length+3+nm.size)=i+x.1.length+1+1+1+nm.size by omega]
end Go.Proofs.YtlmnjbipfacniaaGreatDoor
