/- What is written is read: every right pattern. Expressions th -/
import Derived.Test.YtlmnjbipfacniaaGreatDoorRtCMs
import Derived.Test.YtlmnjbipfacniaaGreatDoorSyLeMs
import Derived.Test.YtlmnjbipfacniaaGreatDoorStBMs
import Derived.Test.YtlmnjbipfacniaaGreatDoorQuote4Ms
set_option maxRecDepth 100000
set_option maxHeartbeats 4000000
namespace Go.Proofs.YtlmnjbipfacniaaGreatDoor
open Go.Proofs.Tryz
open Go.RowKit
theorem rQ {T:PT} {i:Nat} (h:i < T.len):(T.kid i).dep+1≤T.dep:=by
 have h1:(T.kid i).dep≤n7 T.lst:=BD (oS (PT.lst_at h));rw[xh T];omega
theorem wa {α:Type} (T:PT) (f:PT→α):T.lst.map f=(List.range T.len).map fun i=>f (T.kid i):=by rw[zp,wv];rfl
theorem C0 {n:Nat} (h:0 < n):∃r,List.range n=0::r:=by
 obtain⟨m,rfl⟩:∃m,n=m+1:=⟨n - 1,by omega⟩
 exact⟨_,List.range_succ_eq_map⟩
theorem Fm (p k:Int) (hp:p≠19):lc p k=(decide (k=19) || decide (k=18)):=by
 unfold lc;rw[show decide (p≠19)=true from fk hp,Bool.and_true]
theorem M5 (k:Int):lc 19 k=decide (k=19):=by
 unfold lc;rw[show decide ((19:Int)≠19)=false from rfl,Bool.and_false,Bool.or_false]
structure Rds (s:ByteArray) (T:PT):Prop where
 pie:∀d,(if T.k=18∨T.k=19 then T.dep≤d else T.dep≤d+1)→Pie d (Bf s d) s (T.pie,T.bar)
 alt:∀d,(if T.k=19 then T.dep≤d else T.dep≤d+1)→Alt d (Bf s d) s (T.alt,T.bar)
 all:∀d,T.dep≤d+1→All s d (T.txt,T.bar)
theorem BK {d:Nat} {B:Nat→Rd PT} {s:ByteArray} {x:List UInt8 × PT} (h:Pie d B s x):Alt d B s x:=Gl x [] (fun y hy=>by rw[jv] at hy;subst hy;exact h)
theorem BL {d:Nat} {s:ByteArray} {x:List UInt8 × PT} (h:Alt d (Bf s d) s x):All s d x:=fun _ ha hs he=>Gm x [] (fun y hy=>by rw[jv] at hy;subst hy;exact h) ha hs he
theorem Jx {s:ByteArray} {T:PT} (h8:T.k≠18) (h9:T.k≠19) (h:∀d,T.dep≤d+1→Pie d (Bf s d) s (T.txt,T.bar)):Rds s T:=by
 have e1:T.pie=T.txt:=by unfold PT.pie;rw[db h9,db h8];rfl
 have e2:T.alt=T.txt:=by unfold PT.alt;rw[db h9];rfl
 refine⟨fun d hd=> ?_,fun d hd=> ?_,fun d hd=> ?_⟩
 ·rw[ac (by omega)] at hd;rw[e1];exact h d hd
 ·rw[ac h9] at hd;rw[e2];exact BK (h d hd)
 ·exact BL (BK (h d hd))
theorem Ew {k:Int} {l:List PT} (h:2≤l.length):iB k l=aP k ⟨#[]⟩ 0 ⟨#[]⟩ l:=by
 match l,h with
 | _::_::_,_=>rfl
theorem Mk {s:ByteArray} {T:PT} (h8:T.k=18) (hl:2≤T.len) (ih:∀i,i < T.len→Rds s (T.kid i)):Rds s T:=by
 have hx:T.txt=jn [32] (T.lst.map PT.pie):=by
  rw[T.txt_eq (by omega),ac (by omega),af h8,A4,wa]
  congr 1
  refine As fun i _=> ?_
  unfold PT.kidT PT.pie;rw[Fm _ _ (by omega)]
 have hb:T.bar=iB 18 (T.lst.map PT.bar):=by
  rw[Ew (by rw[oT,PT.lst_len];exact hl),T.bar_eq,h8]
  rfl
 have core:∀d,T.dep≤d+1→Alt d (Bf s d) s (T.txt,T.bar):=fun d hd=>by
  obtain⟨r,hr⟩:=C0 (show 0 < T.len by omega)
  rw[hx,hb,wa,wa,hr,fM,fM];have gM:∀i ∈ List.range T.len,Pie d (Bf s d) s ((T.kid i).pie,(T.kid i).bar):=fun i hi=>by
   have hi':=List.mem_range.1 hi;have:=rQ hi';exact(ih i hi').pie d (by split <;> omega)
  rw[hr] at gM;have:=Gl ((T.kid 0).pie,(T.kid 0).bar) (r.map fun i=>((T.kid i).pie,(T.kid i).bar)) (fun y hy=>by
   rcases dO.1 hy with rfl | hy
   ·exact gM 0 (by simp)
   ·obtain⟨i,hi,rfl⟩:=List.mem_map.1 hy
    exact gM i (kH _ hi))
  simpa [List.map_map,Function.comp_def] using this
 have e2:T.alt=T.txt:=by unfold PT.alt;rw[db (by omega)];rfl
 have e1:T.pie=40::T.txt++[41]:=by unfold PT.pie;rw[fk h8,Bool.or_true];rfl
 refine⟨fun d hd=> ?_,fun d hd=> ?_,fun d hd=>BL (core d hd)⟩
 ·rw[af (.inl h8)] at hd
  have:=T.dep_pos;obtain⟨d',rfl⟩:∃d',d=d'+1:=⟨d - 1,by omega⟩
  rw[e1];exact Gi (BL (core d' hd))
 ·rw[ac (by omega)] at hd;rw[e2];exact core d hd
theorem Ml {s:ByteArray} {T:PT} (h9:T.k=19) (hl:2≤T.len) (ih:∀i,i < T.len→Rds s (T.kid i)):Rds s T:=by
 have hx:T.txt=jn [32,124,32] (T.lst.map PT.alt):=by
  rw[T.txt_eq (by omega),ac (by omega),ac (by omega),af h9,A4,wa]
  congr 1
  refine As fun i _=> ?_
  unfold PT.kidT PT.alt;rw[h9,M5]
 have hb:T.bar=iB 19 (T.lst.map PT.bar):=by
  rw[Ew (by rw[oT,PT.lst_len];exact hl),T.bar_eq,h9]
  rfl
 have core:∀d,T.dep≤d+1→All s d (T.txt,T.bar):=fun d hd=>by
  obtain⟨r,hr⟩:=C0 (show 0 < T.len by omega)
  have gM:∀i ∈ List.range T.len,Alt d (Bf s d) s ((T.kid i).alt,(T.kid i).bar):=fun i hi=>by
   have hi':=List.mem_range.1 hi;have:=rQ hi';exact(ih i hi').alt d (by split <;> omega)
  rw[hr] at gM;have key:= @Gm d s ((T.kid 0).alt,(T.kid 0).bar) (r.map fun i=>((T.kid i).alt,(T.kid i).bar)) (fun y hy=>by
   rcases dO.1 hy with rfl | hy
   ·exact gM 0 (by simp)
   ·obtain⟨i,hi,rfl⟩:=List.mem_map.1 hy
    exact gM i (kH _ hi))
  have e3:(((T.kid 0).alt,(T.kid 0).bar)::r.map fun i=>((T.kid i).alt,(T.kid i).bar)).map (·.1)=T.lst.map PT.alt:=by
   rw[wa,hr,fM,fM,wv];rfl
  have e4:(((T.kid 0).alt,(T.kid 0).bar)::r.map fun i=>((T.kid i).alt,(T.kid i).bar)).map (·.2)=T.lst.map PT.bar:=by
   rw[wa,hr,fM,fM,wv];rfl
  intro i ha hs he;have k:= @key i (by rw[e3,←hx];exact ha) (by rw[e3,←hx];exact hs) (by rw[e3,←hx];exact he)
  rw[e3,e4,←hx,←hb] at k;exact k
 have e2:T.alt=40::T.txt++[41]:=by unfold PT.alt;rw[fk h9];rfl
 have e1:T.pie=40::T.txt++[41]:=by unfold PT.pie;rw[fk h9,Bool.true_or];rfl
 have pie:∀d,T.dep≤d→Pie d (Bf s d) s (40::T.txt++[41],T.bar):=fun d hd=>by
  have:=T.dep_pos;obtain⟨d',rfl⟩:∃d',d=d'+1:=⟨d - 1,by omega⟩
  exact Gi (core d' hd)
 refine⟨fun d hd=> ?_,fun d hd=> ?_,core⟩
 ·rw[af (.inr h9)] at hd;rw[e1];exact pie d hd
 ·rw[af h9] at hd;rw[e2];exact BK (pie d hd)
theorem rP {T:PT} (h:T.len=0):T.lst=[]:=kG (by rw[PT.lst_len];exact h)
theorem ya {T:PT} (h:T.len=1):T.lst=[T.kid 0]:=by rw[zp,h];rfl
theorem Mm {s:ByteArray}:∀T:PT,T.bad=0→Rds s T:=PT.ind fun T ih aA=>by
 obtain⟨he,hk⟩:=fG aA;obtain⟨k1,k24,ht,hn,dm,eN,jz⟩:=jo he;have ihk:∀i,i < T.len→Rds s (T.kid i):=fun i hi=>ih i hi (hk i hi)
 by_cases h8:T.k=18
 ·refine Mk h8 ?_ ihk
  have:cK T.k=2:=by unfold cK;rw[af (.inl h8)]
  omega
 ·by_cases h9:T.k=19
  ·refine Ml h9 ?_ ihk
   have:cK T.k=2:=by unfold cK;rw[af (.inr h9)]
   omega
  ·refine Jx h8 h9 fun d hd=> ?_
   by_cases h1:T.k=1
   ·have hl0:T.len=0:=by
     have:cM T.k=0:=by unfold cM;rw[ac (by omega),ac (by omega)]
     omega
    rw[T.txt_eq k1,af h1,T.bar_eq,rP hl0,h1];exact JQ
   ·by_cases h21:T.k=21∨T.k=22
    ·have kL:T.len=1:=by
      have a:cM T.k=1:=by unfold cM;rw[ac (by omega),af (by omega)]
      have b:cK T.k=1:=by unfold cK;rw[ac (by omega),af (by omega)]
      omega
     have hdk:=rQ (T:=T) (i:=0) (by omega)
     have hp:=(ihk 0 (by omega)).pie d (by split <;> omega)
     have hh:aO T.k=3:=by unfold aO;rw[ac (by omega),ac (by omega),af (by omega)]
     have hj:iy [] T.kidT T.len=(T.kid 0).pie:=by
      rw[kL];show []++[]++T.kidT 0=_;unfold PT.kidT PT.pie;rw[Fm _ _ (by omega)]
      rfl
     have lh:T.bar=aP T.k ⟨#[]⟩ 0 T.nm [(T.kid 0).bar]:=by
      rw[T.bar_eq,ya kL,hh];rfl
     rcases h21 with h21 | h22
     ·rw[T.txt_eq k1,ac h1,ac h8,ac h9,af h21,hj,lh,h21]
      exact C7 (dm hh) hp (.inl ⟨rfl,rfl⟩)
     ·rw[T.txt_eq k1,ac h1,ac h8,ac h9,ac (by omega),af h22,hj,lh,h22]
      exact C7 (dm hh) hp (.inr ⟨rfl,rfl⟩)
    ·by_cases h23:T.k=23∨T.k=24
     ·have hl0:T.len=0:=by
       have:cM T.k=0:=by unfold cM;rw[ac (by omega),ac (by omega)]
       omega
      have hh:aO T.k=3:=by unfold aO;rw[ac (by omega),ac (by omega),af (by omega)]
      have lh:T.bar=aP T.k ⟨#[]⟩ 0 T.nm []:=by
       rw[T.bar_eq,rP hl0,hh];rfl
      rcases h23 with h23 | h24
      ·rw[T.txt_eq k1,ac h1,ac h8,ac h9,ac (by omega),ac (by omega),af h23,lh,h23]
       exact C2 (dm hh) (.inl ⟨rfl,rfl⟩)
      ·rw[T.txt_eq k1,ac h1,ac h8,ac h9,ac (by omega),ac (by omega),ac (by omega),af h24,lh,h24]
       exact C2 (dm hh) (.inr ⟨rfl,rfl⟩)
     ·rw[T.txt_eq k1,ac h1,ac h8,ac h9,ac (by omega),ac (by omega),ac (by omega),ac (by omega)]
      obtain⟨K,hK⟩:∃K:Nat,T.k=(K:Int):=⟨T.k.toNat,by omega⟩
      rw[show T.k.toNat=K by omega]
      by_cases jD:T.k=20
      ·have kL:T.len=1:=by
        have a:cM T.k=1:=by unfold cM;rw[ac (by omega),af (by omega)]
        have b:cK T.k=1:=by unfold cK;rw[ac (by omega),af (by omega)]
        omega
       have hh:aO T.k=0:=by unfold aO;rw[ac (by omega),ac (by omega),ac (by omega)]
       have lh:T.bar=aP 20 ⟨#[]⟩ 0 ⟨#[]⟩ [(T.kid 0).bar]:=by
        rw[T.bar_eq,ya kL,hh,jD];rfl
       have hdk:=rQ (T:=T) (i:=0) (by omega)
       have hdp:=(T.kid 0).dep_pos;obtain⟨d',rfl⟩:∃d',d=d'+1:=⟨d - 1,by omega⟩
       rw[lh,ac (by rw[hh];decide),ac (by rw[hh];decide),af jD,show K=20 by omega]
       exact Ke ((ihk 0 (by omega)).all d' (by omega))
      ·have hl0:T.len=0:=by
        have:cM T.k=0:=by unfold cM;rw[ac (by omega),ac (by omega)]
        omega
       have hKr:(2≤K∧K≤17)∨K=20:=.inl (by omega)
       by_cases qo:aO T.k=2
       ·have lh:T.bar=aP K ⟨#[]⟩ T.n ⟨#[]⟩ []:=by
         rw[T.bar_eq,rP hl0,qo,hK];rfl
        rw[af qo,lh];exact JE hKr (by rw[←hK];exact qo) (hn qo).1 (hn qo).2
       ·by_cases qp:aO T.k=1
        ·have lh:T.bar=aP K T.t 0 ⟨#[]⟩ []:=by
          rw[T.bar_eq,rP hl0,qp,hK];rfl
         rw[ac qo,af qp,lh];refine Ip hKr (by rw[←hK];exact qp) fun h0=> ?_
         unfold bM at he;rw[ac (by omega),ac (by rintro⟨_,h⟩;have:=ht qp;omega),af ⟨qp,h1,h0⟩] at he
         omega
        ·have hh0:aO T.k=0:=by
          rcases Dy T.k with h | h | h | h
          ·exact h
          ·exact absurd h qp
          ·exact absurd h qo
          ·exfalso
           unfold aO at h;rw[ac (fun q=>qp (by unfold aO;rw[af q])),ac (fun q=>qo (by unfold aO;rw[ac (fun q'=>qp (by unfold aO;rw[af q'])),af q])),ac (by omega)] at h
           omega
         have h12:12≤K∧K≤17:=by
          unfold aO at hh0;split at hh0
          ·omega
          ·split at hh0
           ·omega
           ·omega
         have lh:T.bar=aP K ⟨#[]⟩ 0 ⟨#[]⟩ []:=by
          rw[T.bar_eq,rP hl0,hh0,hK];rfl
         rw[ac qo,ac qp,ac jD,lh];exact IZ h12
theorem Nc:∀T:PT,T.bar.cnt=T.cnt:=wK fun T ih=>by
 rw[T.bar_eq,ET,yg T,ul,ul,wv];exact aD (fun l=>1+List.sum l) (As fun x hx=>ih x hx)
theorem Nb:∀T:PT,T.bar.dep=T.dep:=wK fun T ih=>by
 rw[T.bar_eq,ES,xh T,zF ih]
theorem vO {T:PT} (h:T.wrong=0):T.fits=true∧T.bad=0:=by
 unfold PT.wrong at h
 by_cases hf:T.fits=true
 ·rw[af hf] at h;exact⟨hf,h⟩
 ·rw[ac hf] at h;omega
theorem KJ {T:PT} (h:T.wrong=0) (hl:T.txt.length≤65536):∃j,j2 ⟨T.txt.toArray⟩=.ok (T.bar,j):=by
 obtain⟨hf,hb⟩:=vO h;obtain⟨s,hs⟩:∃s:ByteArray,s=⟨T.txt.toArray⟩:=⟨_,rfl⟩;have ay:s.size=T.txt.length:=by rw[hs];show T.txt.toArray.size=_;simp
 have hdep:T.dep≤200:=by
  unfold PT.fits at hf;rw[uM] at hf;exact nf hf.2
 obtain⟨D,hD⟩:∃D,D=200:=⟨_,rfl⟩;have he:aj s (0+T.txt.length)=0:=pM s _ (by omega)
 have hn:nx s (0+T.txt.length)=0:=by rw[ky (by omega),he]
 have hk:sk s (0+T.txt.length)=T.txt.length:=by rw[iY (by omega),ni]
 have key:=(Mm (s:=s) T hb).all D (by omega) 0 (by rw[hs];exact Gk T.txt) (.inr (.inr he)) (.inl hn)
 rw[show (T.txt,T.bar).1=T.txt from rfl,hk] at key;have hA:n9 s=.ok (T.bar,T.txt.length):=by
  have e:n9 s=bJ (jL s D 0) fun p j=>if j < s.size then .error (2,j) else .ok (p,j):=by rw[hD];rfl
  rw[e,key,dw,ac (by omega)]
 refine⟨T.txt.length, ?_⟩;rw[←hs];unfold j2;rw[ac (by omega),hA,dw,af]
 unfold PT.fits;rw[Nc,Nb];exact hf
open Go.RowKit
def inP (b:Bool) (l:List It):List It:=if b then sg 40::(l++[sg 41]) else l
def i6 (f:Nat→List It):Nat→List It
 | 0=>[]
 | i+1=>i6 f i++((if 0 < i then [sg 44,bl] else [])++f i)
def lI (k:Int):UInt8:=if k=8 then 38 else if k=9 then 43 else if k=10 then 45 else if k=11 then 42 else if k=12 then 47 else 37
def exN (k:Int) (t:ByteArray) (n:Int) (nm:ByteArray) (len:Nat) (ki:Int→Nat→List It):List It:=
 if k=1 then [tx t] else if k=2 then [nu ⟨(Lib.itoa n).toArray⟩] else if k=3 then [wd nm]
 else if k=4 then wd nm::sg 60::(ki 0 0++[sg 62])
 else if k=5 then sg 36::ki 5 0
 else if k=6 then wd nm::sg 40::(i6 (ki 0) len++[sg 41])
 else if k=7 then sg 45::ki 4 0
 else ki (bs k) 0++bl::sg (lI k)::bl::ki (bs k+1) 1
def PT.exI:PT→List It
 | .node k t n nm _ _ _ len _ kids=>exN k t n nm len fun lv=>kf len [] fun i=>inP (decide (bs (kids i).k < lv)) (PT.exI (kids i))
def PT.atl (T:PT) (lv:Int):List It:=inP (decide (bs T.k < lv)) T.exI
def PT.kidI (T:PT) (lv:Int) (i:Nat):List It:=if i < T.len then (T.kid i).atl lv else []
theorem PT.exI_eq (T:PT):T.exI=exN T.k T.t T.n T.nm T.len T.kidI:=by
 obtain⟨k,t,n,nm,xa,b,o,len,cap,kids⟩:=T;have h:(fun lv=>kf len [] fun i=>inP (decide (bs (kids i).k < lv)) (PT.exI (kids i)))=PT.kidI (PT.node k t n nm xa b o len cap kids):=by
  funext lv i
  unfold PT.kidI
  by_cases h:i < len
  ·rw[af h,PT.kid_at (T:=.node k t n nm xa b o len cap kids) h,ta h];rfl
  ·rw[ac h];unfold kf;rw[dif_neg h]
 show exN k t n nm len (fun lv=>kf len [] fun i=>inP (decide (bs (kids i).k < lv)) (PT.exI (kids i)))=_
 rw[h]
def PT.bex:PT→PT
 | .node k t n nm _ _ _ _ _ kids=>aP k (if k=1 then t else ByteArray.empty) (if k=2 then n else 0) (if ck k=true then nm else ByteArray.empty) (List.ofFn fun i=>PT.bex (kids i))
theorem PT.bex_eq (T:PT):T.bex=aP T.k (if T.k=1 then T.t else ByteArray.empty) (if T.k=2 then T.n else 0) (if ck T.k=true then T.nm else ByteArray.empty) (T.lst.map PT.bex):=by
 obtain⟨k,t,n,nm,xa,b,o,len,cap,kids⟩:=T;show aP k _ _ _ (List.ofFn fun i=>PT.bex (kids i))=aP k _ _ _ ((List.ofFn kids).map PT.bex)
 rw[List.map_ofFn];rfl
def PT.ns:PT→Prop
 | .node _ _ n _ _ _ _ _ _ kids=>n≤9223372036854775807∧∀i,PT.ns (kids i)
theorem MJ {T:PT} (h:T.ns):T.n≤9223372036854775807:=by cases T;exact h.1
theorem ns_kid {T:PT} (h:T.ns) {i:Nat} (hi:i < T.len):(T.kid i).ns:=by rw[PT.kid_at hi];cases T;exact h.2 ⟨i,hi⟩
theorem GB {w:World}:∀T:PT,T.In w→T.ns:=PT.ind fun T ih h=>by
 have h1:=h.num.2;have h2:∀i,i < T.len→(T.kid i).ns:=fun i hi=>ih i hi (h.kids hi)
 obtain⟨k,t,n,nm,xa,b,o,len,cap,kids⟩:=T;exact⟨h1,fun i=>by have:=h2 i.1 i.2;rwa [PT.kid_at (T:=.node k t n nm xa b o len cap kids) i.2] at this⟩
def m7 (E:Nat) (p:Option Lv) (lv:Nat):List Tk→Sy PT:=if lv=5 then eY E p else lF E p lv
theorem Gz (E:Nat) (p:Option Lv):m7 E p 4=gc E p:=rfl
theorem xt (E:Nat) (p:Option Lv):m7 E p 5=eY E p:=rfl
theorem Mr (E:Nat) (p:Option Lv) {lv:Nat} (h1:1≤lv) (h3:lv≤3):m7 E p lv=lG E lv (m7 E p (lv+1)):=by
 have:lv=1∨lv=2∨lv=3:=by omega
 rcases this with rfl | rfl | rfl <;> rfl
theorem prS_le (E:Nat) {p:Option Lv} (h:pU p) (lv:Nat) (l:List Tk):Le l.length (m7 E p lv l):=by
 unfold m7;split
 ·exact BY h l
 ·exact Bx h lv l
structure Cnd (E lv:Nat) (r:List Tk):Prop where
 lt:aL (ak E 0 r) (ah 60)=false
 br:aL (ak E 0 r) (ah 40)=false
 kb:∀m,lv≤m→m≤3→il m (ak E 0 r)=0
theorem Cnd.up {E lv m:Nat} {r:List Tk} (h:Cnd E lv r) (hm:lv≤m):Cnd E m r:=⟨h.lt,h.br,fun k h1 h2=>h.kb k (by omega) h2⟩
def kZ (E d lv:Nat) (its:List It) (x:PT):Prop:=∀i r,Cnd E lv r→m7 E (bV E d) lv (bj i its++r)=.ok (x,r)
def rwC (E d lv:Nat) (x:PT) (r:List Tk):Sy PT:=kD E lv (m7 E (bV E d) (lv+1)) (r.length+1) x r
def xv (E d lv:Nat) (its:List It) (x:PT):Prop:=∀i r,Cnd E (lv+1) r→m7 E (bV E d) lv (bj i its++r)=rwC E d lv x r
theorem KC {E d lv:Nat} {x:PT} {r:List Tk} (hk:il lv (ak E 0 r)≠0):rwC E d lv x r=aR (m7 E (bV E d) (lv+1) r.tail) fun y q=>rwC E d lv (k8 (il lv (ak E 0 r)) [x,y]) q:=DM (prS_le E (Ad d) (lv+1)) hk
section
variable {E d lv:Nat} {its:List It} {x:PT}
theorem kZ.chain (h:kZ E d (lv+1) its x) (h1:1≤lv) (h3:lv≤3):xv E d lv its x:=fun i r hc=>by
 rw[Mr E _ h1 h3];unfold lG;rw[h i r hc,aQ];rfl
theorem xv.reads (h:xv E d lv its x) (h3:lv≤3):kZ E d lv its x:=fun i r hc=>by
 rw[h i r (hc.up (Nat.le_succ _))];exact DL (hc.kb lv (aw _) h3)
def NoM (E:Nat) (its:List It):Prop:=∀i r,aL (ak E 0 (bj i its++r)) (ah 45)=false
theorem kZ.signed (h:kZ E d 5 its x) (hn:NoM E its):kZ E d 4 its x:=fun i r hc=>by
 rw[Gz];unfold gc;rw[ac (by rw[hn i r];decide)]
 exact h i r (hc.up (by omega))
theorem kZ.down (h:kZ E d 5 its x) (hn:NoM E its):∀lv,1≤lv→lv≤5→kZ E d lv its x:=by
 have r4:=h.signed hn;have r3:=(r4.chain (by decide) (by decide)).reads (by decide)
 have r2:=(r3.chain (by decide) (by decide)).reads (by decide)
 have r1:=(r2.chain (by decide) (by decide)).reads (by decide)
 intro lv h1 h5;have:lv=1∨lv=2∨lv=3∨lv=4∨lv=5:=by omega
 rcases this with rfl | rfl | rfl | rfl | rfl <;> assumption
end
theorem EA {b c:UInt8} (h:ah b=ah c):b=c:=by
 have:(#[b]:Array UInt8)= #[c]:=aD ByteArray.data h
 simpa using this
theorem fH (b c:UInt8) (a:Nat):aL ⟨5,ah b,a⟩ (ah c)=decide (b=c):=by
 unfold aL;show (true && decide (ah b=ah c))=_;rw[Bool.true_and]
 by_cases h:b=c
 ·subst h;rw[fk rfl,fk rfl]
 ·rw[db h,db fun q=>h (EA q)]
theorem jq {k:Nat} {t s:ByteArray} {a:Nat} (h:k≠5):aL ⟨k,t,a⟩ s=false:=by
 unfold aL;show (decide (k=5) && _)=false;rw[db h];rfl
theorem MS (b:UInt8) (a:Nat):aL ⟨5,ah b,a⟩ ju=false:=by
 unfold aL;show (true && decide (ah b=ju))=_;rw[Bool.true_and];refine db fun q=> ?_
 have:(#[b]:Array UInt8).size=2:=by rw[show (#[b]:Array UInt8)=ju.data from aD ByteArray.data q];rfl
 exact absurd this (by simp)
theorem uv (E:Nat) (b:UInt8) (a:Nat) (l:List Tk):ef E (ah b) (⟨5,ah b,a⟩::l)=.ok ((),l):=by
 unfold ef;show (if aL ⟨5,ah b,a⟩ (ah b)=true then _ else _)=_;rw[fH,af (fk rfl)];rfl
theorem uu (E:Nat) {t:ByteArray} (h:ca t=true) (a:Nat) (l:List Tk):dL E (⟨1,t,a⟩::l)=.ok (t,l):=by
 unfold dL;show (if (1:Nat)=1 then (if ca t=true then Except.ok (t,l) else _) else _)=_;rw[af rfl,af h]
theorem gu (b:UInt8) (l:List It) (i:Nat):bj i (sg b::l)=⟨5,ah b,i⟩::bj (i+1) l:=rfl
theorem mx (l:List It) (i:Nat):bj i (bl::l)=bj (i+1) l:=rfl
theorem nW (t:ByteArray) (l:List It) (i:Nat):bj i (wd t::l)=⟨1,t,i⟩::bj (i+t.data.toList.length) l:=rfl
theorem tk_nu (t:ByteArray) (l:List It) (i:Nat):bj i (nu t::l)=⟨2,t,i⟩::bj (i+t.data.toList.length) l:=rfl
theorem Gy (t:ByteArray) (l:List It) (i:Nat):bj i (pa t::l)=⟨4,t,i⟩::bj (i+(91::(t.data.toList++[93])).length) l:=rfl
theorem qN (i:Nat):bj i []=[]:=rfl
theorem MQ {b:UInt8} (h:iD (ah b)=0) {m a:Nat} (_hm:1≤m):il m ⟨5,ah b,a⟩=0:=by
 unfold il;show (if (5:Nat)=5∧pS (iD (ah b))=m then iD (ah b) else 0)=0;rw[h];split <;> rfl
theorem MR {k:Nat} {t:ByteArray} {m a:Nat} (h:k≠5):il m ⟨k,t,a⟩=0:=by
 unfold il;rw[ac fun q=>h q.1]
theorem wg {E lv:Nat} {b:UInt8} (h:iD (ah b)=0) (h1:b≠60) (h2:b≠40) (a:Nat) (l:List Tk) (hl:1≤lv):Cnd E lv (⟨5,ah b,a⟩::l):=
 ⟨(fH b 60 a).trans (db h1),(fH b 40 a).trans (db h2),fun m h1 _=>MQ h (by omega)⟩
theorem M1 {E lv:Nat}:Cnd E lv []:=⟨jq (by decide),jq (by decide),fun _ _ _=>MR (by decide)⟩
theorem Em:∀(n u:Nat),u < n→(Lib.decDigits u).foldl (fun m (b:UInt8)=>10 * m+(b.toNat - 48)) 0=u
 | 0,u,h=>by omega
 | n+1,u,h=>by
  by_cases q:u < 10
  ·have e:Lib.decDigits u=[UInt8.ofNat (48+u)]:=by rw[Lib.decDigits,dif_pos q]
   rw[e];show 10 * 0+((UInt8.ofNat (48+u)).toNat - 48)=u;rw[uJ];omega
  ·have e:Lib.decDigits u=Lib.decDigits (u / 10)++[UInt8.ofNat (48+u % 10)]:=by rw[Lib.decDigits,dif_neg q]
   rw[e,List.foldl_append,Em n (u / 10) (by omega)]
   show 10 * (u / 10)+((UInt8.ofNat (48+u % 10)).toNat - 48)=u;rw[uJ];omega
theorem nuS_at (E:Nat) {n:Int} (h0:0≤n) (h1:n≤9223372036854775807) (a:Nat) (l:List Tk):mB E (⟨2,⟨(Lib.itoa n).toArray⟩,a⟩::l)=.ok (n,l):=by
 have e:Lib.itoa n=Lib.decDigits n.toNat:=by unfold Lib.itoa;rw[ac (by omega)]
 rw[e];obtain⟨u,hu⟩:∃u,u=n.toNat:=⟨_,rfl⟩;have hn:n=(u:Int):=by omega
 rw[←hu,hn];have hv:oe ⟨(Lib.decDigits u).toArray⟩=u:=by
  unfold oe;rw[lW];exact Em (u+1) u (by omega)
 unfold mB;show (if 1 < (⟨(Lib.decDigits u).toArray⟩:ByteArray).size∧aj ⟨(Lib.decDigits u).toArray⟩ 0=48 then _ else if 9223372036854775807 < oe ⟨(Lib.decDigits u).toArray⟩ then _ else Except.ok ((oe ⟨(Lib.decDigits u).toArray⟩:Int),l))=_;rw[hv,ac,ac (by omega)]
 rintro⟨q1,q2⟩
 by_cases q:10≤u
 ·obtain⟨c,r,e1,e2⟩:=Be (u+1) u (by omega) q
  rw[e1] at q2;exact e2 q2
 ·have:(Lib.decDigits u).length=1:=by rw[Lib.decDigits,dif_pos (by omega)];rfl
  have h2:(⟨(Lib.decDigits u).toArray⟩:ByteArray).size=(Lib.decDigits u).length:=by show (Lib.decDigits u).toArray.size=_;simp
  omega
open Go.RowKit
structure Gw (o t o':List UInt8) (c:Nat):Prop where
 same:(o++t).length≤2000→o'=o++t
 long:2000 < (o++t).length→2000 < o'.length
 most:o'.length≤max o.length 140000+c
 up:o.length≤o'.length
theorem Gw.refl (o:List UInt8):Gw o [] o 0:=⟨fun _=>(lf o).symm,fun h=>by simpa using h,by omega,aw _⟩
theorem Gw.put (o t:List UInt8):Gw o t (o++t) t.length:=⟨fun _=>rfl,fun h=>h,by rw[be];omega,by rw[be];omega⟩
theorem Gw.big (o t:List UInt8) (ho:o.length≤2000) (ht:t.length≤131100):Gw o t (o++t) 0:=⟨fun _=>rfl,fun h=>h,by rw[be];omega,by rw[be];omega⟩
theorem Gw.gave (o t:List UInt8) (h:2000 < o.length):Gw o t o 0:=⟨fun x=>by rw[be] at x;omega,fun _=>h,by omega,aw _⟩
theorem Gw.trans {o t1 o1 t2 o2:List UInt8} {c1 c2:Nat} (h:Gw o t1 o1 c1) (k:Gw o1 t2 o2 c2):Gw o (t1++t2) o2 (c1+c2):=by
 have hm:=h.most;have km:=k.most;have hu:=h.up;have ku:=k.up;refine⟨fun x=> ?_,fun x=> ?_,by omega,by omega⟩
 ·rw[be,be] at x
  have e:=h.same (by rw[be];omega)
  subst e;rw[k.same (by simp only[be];omega),fT]
 ·rcases cG 2000 (o++t1).length with y | y
  ·have:=h.long y;omega
  ·have e:=h.same y
   subst e;exact k.long (by rw[fT];exact x)
theorem Gw.more {o t o':List UInt8} {c d:Nat} (h:Gw o t o' c) (hc:c≤d):Gw o t o' d:=⟨h.same,h.long,by have:=h.most;omega,h.up⟩
def uH (B z:Nat) (w:World) (v:Value) (o t:List UInt8) (f:Bool) (c:Nat) (w':World):Prop:=∃v' o',WX z w w' v v'∧WrI B z w' v' o' (f || eu t)∧Gw o t o' c
def ik (B z:Nat) (w:World) (v:Value) (o t:List UInt8) (f:Bool) (c:Nat) (e:Ending) (w':World):Prop:=e=.returned (.tuple #[])∧uH B z w v o t f c w'
section
variable {B z:Nat} {w w1 w2:World} {v v1:Value} {o o1 t t1 t2:List UInt8} {f:Bool} {c c1 c2:Nat}
theorem uH.cast (h:uH B z w v o t f c w1) (e:t=t1) (hc:c≤c1):uH B z w v o t1 f c1 w1:=by
 subst e;obtain⟨v',o',h1,h2,h3⟩:=h;exact⟨v',o',h1,h2,h3.more hc⟩
theorem tc.st (h:tc B z w v o t f w1):uH B z w v o t f t.length w1:=by
 obtain⟨v',h1,h2⟩:=h;exact⟨v',o++t,h1,h2,Gw.put o t⟩
theorem WX.bel {n:Nat} {W:World} (hb:Below n W w) (hW:WrI B z w v o f) (hn:n≤z) (hx:WX z w w1 v v1):Below n W w1:=by
 refine⟨hx.os.trans hb.os,hx.tape.trans hb.tape,hx.output.trans hb.output,bv hb.size hx.size,fun k hk=> ?_⟩
 have hz:=(bC.1 hW.blk).1;refine(hx.block k (by omega) (by omega) fun e=> ?_).trans (hb.block k hk)
 have h1:=(uO hW.row k e.symm).1;have h2:=hW.low;omega
end
structure EnvW (W:World):Prop where
 shx:gJ W
 lim:∃m,W.cell? ⟨2,0,none⟩=some (.int .i64 m)
 pow:∀w,Below W.heap.size W w→Lib.TabIs prog w "internal/strconv.uint64pow10" .u64 Lib.pow10Tab
theorem EnvW.later {w w':World} (h:EnvW w) (hb:Below w.heap.size w w'):EnvW w':=⟨h.shx.later hb,by obtain⟨m,hm⟩:=h.lim;exact⟨m,av hb hm⟩,fun u hu=>h.pow u (aq hb hu)⟩
theorem EnvW.lt {w:World} (h:EnvW w):(2:Nat) < w.heap.size:=by obtain⟨m,hm⟩:=h.lim;exact da _ _ hm
theorem FF {W w:World} {B z:Nat} {v:Value} {o:List UInt8} {f:Bool} (hE:EnvW W) (hb:Below W.heap.size W w) (hz:W.heap.size≤z) (hW:WrI B z w v o f) (l:List ByteArray) (hl:l.length≤11) (hs:∀t ∈ l,t.size≤200000) (ho:o.length≤10000000) {wl:World} (mM:wl=w.alloc (.cells (l.map Value.string).toArray 9)):
  Calls prog 42 #[.pointer (some ⟨z,0,none⟩),.slice (some ⟨w.heap.size,0,none⟩) l.length l.length] wl fun e w'=>e=.returned (.tuple #[])∧tc B z w v o (bH l) f w':=by
 obtain⟨m,hm⟩:=hE.lim;have bp:Below w.heap.size w wl:=by rw[mM];exact ba _
 have hg:wl.heap[w.heap.size]? =some (.cells (l.map Value.string).toArray 9 (0,0)):=by rw[mM];exact ax rfl
 have hzl:=(bC.1 hW.blk).1;have hN:NL.In wl ⟨some ⟨w.heap.size,0,none⟩,w.heap.size,0,l.length,l⟩:=⟨aw _,by show l.length≤maxLen;unfold maxLen;omega,fun _=>rfl,fun i t ht=>⟨by
  rw[ni,eB _ _ _ _ _ _ hg];have ht:l[i]? =some t:=ht;simp[ht],by have:=hs t (oS ht);unfold maxLen;omega⟩⟩
 refine(Mn _ wl (hW.below bp) hN ⟨by show w.heap.size≠z;omega,fun e=> ?_⟩ hs hl ho m (av bp (av hb hm)) (gL hE.lt hz)).mono fun e w' h=>⟨h.1, ?_⟩
 ·have:=(uO hW.row w.heap.size e.symm).2
  omega
 ·obtain⟨v',h1,h2⟩:=h.2
  exact⟨v',(WX.below bp).trans h1,h2⟩
open Go.RowKit
theorem DY (l:List UInt8):eu l=true↔(10:UInt8) ∈ l:=by unfold eu;exact List.contains_iff_mem
theorem KM (s:List UInt8):eu (et s)=eu s:=by
 rw[uP,DY,DY];unfold et;constructor
 ·intro h
  have h:=(uQ.1 h).resolve_right (fun q=>absurd (jv.1 q) (by decide))
  have h:=(dO.1 h).resolve_left (by decide)
  obtain⟨c,hc,hx⟩:=List.mem_flatMap.1 h
  by_cases q:c=39
  ·rw[af q] at hx
   exact absurd hx (by decide)
  ·rw[ac q,jv] at hx
   rw[hx];exact hc
 ·intro h
  exact uQ.2 (.inl (kH _ (List.mem_flatMap.2 ⟨10,h,by rw[ac (by decide)];exact jv.2 rfl⟩)))
theorem fw (t:ByteArray):bH [t]=t.data.toList:=by unfold bH;simp
theorem zS {B z:Nat} {w w1:World} {v v1:Value} {o o1 t:List UInt8} {f g:Bool} {c:Nat} (hx:WX z w w1 v v1) (hw:WrI B z w1 v1 o1 g) (hg:Gw o t o1 c) (b:Bool) (hb:b=(f || eu t)):uH B z w v o t f c (w1.setCell ⟨z,1,none⟩ (.bool b)):=
 ⟨v1,o1,hx.set 1 _,by rw[←hb];exact hw.feed b,hg⟩
theorem IB {W w:World} {B z:Nat} {v:Value} {o:List UInt8} {f:Bool} (s:ByteArray) (hE:EnvW W) (hb:Below W.heap.size W w) (hz:W.heap.size≤z) (hW:WrI B z w v o f) (hs:s.size≤65536) (ho:o.length≤10000000):
  Calls prog 126 #[.pointer (some ⟨z,0,none⟩),.string s] w fun e w'=>ik B z w v o (et s.data.toList) f 0 e w':=by
 obtain⟨m,hm⟩:=hE.lim;have vE:=ab (fun w (h:Below W.heap.size W w)=>A2 s w hs m (av h hm))
 have HCT:=ab (fun (wr:World) (h:Below W.heap.size W wr)=>show Calls prog 79 #[.string s,.string ⟨#[10]⟩] wr fun e w'=>e=.returned (.bool (eu s.data.toList))∧w'=wr from Fb s.data.toList▸Tryz.strings_Contains s ⟨#[10]⟩ m wr (by omega) (av h hm))
 have HPU:=ab (fun (w1:World) (h:Below W.heap.size W w1) (me:WrI B z w1 v o f)=>show Calls prog 42 #[.pointer (some ⟨z,0,none⟩),.slice (some ⟨w1.heap.size,0,none⟩) 1 1] (w1.alloc (.cells #[.string (fI s)] 9)) fun e w'=>e=.returned (.tuple #[])∧tc B z w1 v o (bH [fI s]) f w' from FF hE h hz me [fI s] (by simp) (fun t ht=>by rw[jv] at ht;subst ht;have:=AQ s hs;omega) ho rfl)
 have HBL:=ab (fun (w1:World) (v1:Value) (hx:WX z w w1 v v1)=>WX.bel hb hW hz hx)
 have HNL:=ab (KM s.data.toList);have hqb:bH [fI s]=et s.data.toList:=by rw[fw];unfold fI;simp
 rw[hqb] at HPU;have HQL:Hid ((et s.data.toList).length≤131100):=ab (by
  have:=AT s.data.toList;have h2:s.data.toList.length=s.size:=by simp
  omega)
 obtain⟨xa,cp,nA⟩:=rI hW.row;subst nA;have HW:=ab hW;have HB:=ab hb;have c0:=hW.c0;have c1:=hW.c1;have f1:=hW.fz 1;clear hW hb hE hm hs hqb;generalize et s.data.toList=q at *
 by_cases h2:o.length≤2000
 ·have q2:(o.length:Int)≤2000:=by omega
  have HO:=ab h2;clear h2;go_enter func126,ntmps126;go_wp2_with fail;refine(aa vE w (aa HB)).mono ?_;rintro e w1 ⟨rfl,hb1⟩;have HP:=ab (aa HPU w1 (aq (aa HB) hb1) ((aa HW).below hb1));have d6:=ab (WX.below (z:=z) (v:=.slice xa o.length cp) hb1);clear hb1 HPU vE c0 c1 f1;go_wp2_with fail;refine(aa HP).mono ?_;rintro e w2 ⟨rfl,v2,cJ,fm⟩;have eE:=ab ((aa d6).trans cJ);obtain⟨ff,hff⟩:∃ff,ff=(f || eu q):=⟨_,rfl⟩;rw[←hff] at fm;have fb:=ab fm;have c1:=fm.c1;have f1:=fm.fz 1;have lR:=ab (aa HCT w2 (aa HBL w2 v2 (aa eE)));have HFF:=ab hff;clear cJ fm HP d6 HCT HBL hff
  cases ff
  ·have HF:=ab (zS (aa eE) (aa fb) (Gw.big o q (aa HO) (aa HQL)) (eu s.data.toList) (by
    have h:=aa HFF;rw[←h];have h3:eu q=false:=by cases hq:eu q with
     | false=>rfl
     | true=>rw[hq,Bool.or_true] at h;cases h
    rw[←aa HNL,h3]))
   go_wp2_with fail;refine(aa lR).mono ?_;rintro e w2 ⟨rfl,rfl⟩;generalize eu s.data.toList=nt at *;go_wp2_with fail;go_end0;exact⟨rfl,aa HF⟩
  ·have HF:=ab (zS (aa eE) (aa fb) (Gw.big o q (aa HO) (aa HQL)) true (aa HFF))
   go_wp2_with fail;go_end0;exact⟨rfl,aa HF⟩
 ·have q2:¬(o.length:Int)≤2000:=by omega
  have HO:Hid (2000 < o.length):=ab (by omega)
  clear h2
  cases f
  ·have HF:=ab (zS (WX.refl z w _) (aa HW) (Gw.gave o q (aa HO)) (eu s.data.toList) (by rw[aa HNL,xE]))
   go_enter func126,ntmps126;go_wp2_with fail;refine(aa HCT w (aa HB)).mono ?_;rintro e w ⟨rfl,rfl⟩;generalize eu s.data.toList=nt at *;go_wp2_with fail;go_end0;exact⟨rfl,aa HF⟩
  ·have HF:=ab (zS (WX.refl z w _) (aa HW) (Gw.gave o q (aa HO)) true (by rw[Bool.true_or]))
   go_enter func126,ntmps126;go_wp2_with fail;go_end0;exact⟨rfl,aa HF⟩
end Go.Proofs.YtlmnjbipfacniaaGreatDoor
