/- A pattern's text, and how a text grows that is given up when -/
import Derived.Test.YtlmnjbipfacniaaGreatDoorPatWrongP
import Derived.Lib.ItoaNum
import Derived.Lib.OthersKept
import Derived.Lib.AppendStr
import Derived.Maps.AppendAt
import Derived.Deep.RegionHeld3
import Derived.Test.YtlmnjbipfacniaaGreatDoorRowBaseM
namespace Go.Proofs.YtlmnjbipfacniaaGreatDoor
open Go.Proofs.Tryz
def eC (l:List UInt8):List UInt8:=39::(l.flatMap fun c=>if c=39 then [39,39] else [c])++[39]
def k5 (parent kid:Int):Bool:=decide (kid=19) || (decide (kid=18) && decide (parent≠19))
def iJ (sep:List UInt8) (f:Nat→List UInt8):Nat→List UInt8
 | 0=>[]
 | i+1=>iJ sep f i++(if 0 < i then sep else [])++f i
def rL (b:Bool) (t:List UInt8):List UInt8:=if b then 40::t++[41] else t
def xw (k:Int) (t:ByteArray) (n:Int) (nm:ByteArray) (len:Nat) (kt:Nat→List UInt8) (kk:Nat→Int):List UInt8:=
 if k=1 then eC t.data.toList
 else if k=18 then iJ [32] (fun i=>rL (k5 k (kk i)) (kt i)) len
 else if k=19 then iJ [32,124,32] (fun i=>rL (k5 k (kk i)) (kt i)) len
 else if k=21 then iJ [] (fun i=>rL (k5 k (kk i)) (kt i)) len++[32,46,32]++nm.data.toList
 else if k=22 then iJ [] (fun i=>rL (k5 k (kk i)) (kt i)) len++[32,36,32]++nm.data.toList
 else if k=23 then 64::nm.data.toList
 else if k=24 then 42::nm.data.toList
 else (aQ k.toNat).data.toList++(if aE k=2 then 40::Lib.itoa n++[41] else if aE k=1 then 40::eC t.data.toList++[41] else if k=20 then 40::kt 0++[41] else [])
def Au:List UInt8:=xw 0 ByteArray.empty 0 ByteArray.empty 0 (fun _=>[]) (fun _=>0)
def PT.txt:PT→List UInt8
 | .node k t n nm _ _ _ len _ kids=>xw k t n nm len (kf len Au fun i=>PT.txt (kids i)) (kf len 0 fun i=>(kids i).k)
theorem Na:PT.nul.txt=Au:=by
 show xw 0 ByteArray.empty 0 ByteArray.empty 0 _ _=xw 0 ByteArray.empty 0 ByteArray.empty 0 _ _;unfold xw;simp only[show ¬((0:Int)=1) by decide,show ¬((0:Int)=18) by decide,show ¬((0:Int)=19) by decide,show ¬((0:Int)=20) by decide,show ¬((0:Int)=21) by decide,show ¬((0:Int)=22) by decide,show ¬((0:Int)=23) by decide,show ¬((0:Int)=24) by decide,if_false]
def PT.kidT (T:PT) (i:Nat):List UInt8:=rL (k5 T.k (T.kid i).k) (T.kid i).txt
theorem PT.txt_eq {T:PT} (_:1≤T.k):T.txt=
  if T.k=1 then eC T.t.data.toList
  else if T.k=18 then iJ [32] T.kidT T.len
  else if T.k=19 then iJ [32,124,32] T.kidT T.len
  else if T.k=21 then iJ [] T.kidT T.len++[32,46,32]++T.nm.data.toList
  else if T.k=22 then iJ [] T.kidT T.len++[32,36,32]++T.nm.data.toList
  else if T.k=23 then 64::T.nm.data.toList
  else if T.k=24 then 42::T.nm.data.toList
  else (aQ T.k.toNat).data.toList++(if aE T.k=2 then 40::Lib.itoa T.n++[41] else if aE T.k=1 then 40::eC T.t.data.toList++[41] else if T.k=20 then 40::(T.kid 0).txt++[41] else []):=by
 have h1:(kf T.len Au fun i=>PT.txt (T.kids i))=fun i=>(T.kid i).txt:=by
  funext i
  by_cases h:i < T.len
  ·rw[sS h,PT.kid_at h]
  ·unfold kf PT.kid
   rw[dif_neg h,dif_neg h,Na]
 have h2:(kf T.len 0 fun i=>(T.kids i).k)=fun i=>(T.kid i).k:=by
  funext i
  by_cases h:i < T.len
  ·rw[sS h,PT.kid_at h]
  ·unfold kf PT.kid
   rw[dif_neg h,dif_neg h];rfl
 have e:T.txt=xw T.k T.t T.n T.nm T.len (kf T.len Au fun i=>PT.txt (T.kids i)) (kf T.len 0 fun i=>(T.kids i).k):=by cases T;rfl
 rw[e,h1,h2];rfl
structure Grew (l t r:List UInt8) (c:Nat):Prop where
 same:(l++t).length≤65536→r=l++t
 long:65536 < (l++t).length→65536 < r.length
 most:r.length≤max l.length 196700+c
 up:l.length≤r.length
theorem Grew.refl (l:List UInt8):Grew l [] l 0:=⟨fun _=>(k9 l).symm,fun h=>by simpa using h,by omega,ax _⟩
theorem Grew.gave (l t:List UInt8) (h:65536 < l.length):Grew l t l 0:=⟨fun x=>by rw[bg] at x;omega,fun _=>h,by omega,ax _⟩
theorem Grew.put (l t:List UInt8):Grew l t (l++t) t.length:=⟨fun _=>rfl,fun h=>h,by rw[bg];omega,by rw[bg];omega⟩
theorem Grew.leaf (l t:List UInt8) (hl:l.length≤65536) (ht:t.length≤131100):Grew l t (l++t) 0:=⟨fun _=>rfl,fun h=>h,by rw[bg];omega,by rw[bg];omega⟩
theorem Grew.trans {l t1 r1 t2 r2:List UInt8} {c1 c2:Nat} (h:Grew l t1 r1 c1) (k:Grew r1 t2 r2 c2):Grew l (t1++t2) r2 (c1+c2):=by
 have hm:=h.most;have km:=k.most;have hu:=h.up;have ku:=k.up;refine⟨fun x=> ?_,fun x=> ?_,by omega,by omega⟩
 ·rw[bg,bg] at x
  have e:=h.same (by rw[bg];omega)
  subst e;rw[k.same (by simp only[bg];omega),gg]
 ·rcases cX 65536 (l++t1).length with y | y
  ·have:=h.long y;omega
  ·have e:=h.same y
   subst e;exact k.long (by rw[gg];exact x)
theorem Grew.more {l t r:List UInt8} {c d:Nat} (h:Grew l t r c) (hc:c≤d):Grew l t r d:=⟨h.same,h.long,by have:=h.most;omega,h.up⟩
theorem Grew.cast {l t t' r:List UInt8} {c:Nat} (h:Grew l t r c) (e:t=t'):Grew l t' r c:=e▸h
theorem A4 (l:List UInt8):(eC l).length≤2 * l.length+2:=by
 have:∀l:List UInt8,(l.flatMap fun c=>if c=39 then [39,39] else [c]).length≤2 * l.length:=by
  intro l
  induction l with
  | nil=>simp
  | cons x l ih=>
   rw[ia,bg,List.length_cons];have:(if x=39 then [39,39] else [x]:List UInt8).length≤2:=by split <;> simp
   omega
 have:=this l;unfold eC;rw[bg,List.length_cons,List.length_singleton];omega
open Go.RowKit
def bc (b:UInt8):Value:=.int .u8 (b.toNat:Int)
def bm (w:World) (B:Nat) (v:Value) (l:List UInt8):Prop:=w.ownsRow B 5 1 v l.length (l.map bc)
abbrev Kept (w w':World):Prop:=Lib.OthersKept 5 none w w'
theorem yj:(prog.info? 5).map (fun i=>(i.zero,i.size,i.bytes))=some (some (.int .u8 0),1,1):=by kernel_rfl
theorem bm.later {w w':World} {B:Nat} {v:Value} {l:List UInt8} (h:bm w B v l) (hb:Below w.heap.size w w'):bm w' B v l:=JZ h hb
theorem Jp {w w':World} {B:Nat} {v:Value} {l:List UInt8} (h:bm w B v l) (hg:w.grownBy w' v.ownBlock):Kept w w':=by
 intro k o hk _ ho;refine(hg.block k (bC.1 hk).1 fun e=> ?_).trans hk
 rcases h.2 with ⟨rfl,_⟩ | ⟨g,cap,cur,rfl,_,vn,_⟩
 ·cases e
 ·have:k=g:=by simpa [Value.ownBlock] using e
  subst this;rw[hk] at vn;exact ho _ _ (k8 vn)
theorem IJ {w w':World} {B:Nat} {v:Value} {l:List UInt8} (h:bm w B v l) (hg:w.grownBy w' v.ownBlock) (hB:B≤w.heap.size):Below B w w':=
 (aW B w).grown hg hB (fun i hi=>(uV h i hi).1)
theorem La {w:World} {B:Nat} {v:Value} {l:List UInt8} (h:bm w B v l) (hB:B≤w.heap.size) (b:UInt8) (ad:Addr) (c:Nat) (hc:w.cell? (ad.add 0)=some (bc b)) (hl:l.length+1≤100000000) (ty:TypeId):
  ∃v' w',(Builtin.append_ #[48,48] ty #[v,.slice (some ad) 1 c]).run prog w=.ok v' w'∧bm w' B v' (l++[b])∧Below B w w'∧Kept w w':=by
 have iB:=yj
 cases hi:prog.info? 5 with
 | none=>simp[hi] at iB
 | some i0=>
  simp only[hi,Option.map_some,yI,nX] at iB;obtain⟨lg,lM,ni⟩:=iB;obtain⟨v',w',hr,h2,h3, -, -⟩:=run_append_own_at (P:=prog) w B 48 ty 5 i0 (.int .u8 0) 1 1 underlying48 hi lg lM ni rfl (by decide) v l.length (l.map bc) h ad 1 c [bc b] rfl (fun j u hj=>by
   have hj0:j=0:=by have:=(rN.1 hj).1;simpa using this
   subst hj0;have:u=bc b:=by simpa using hj.symm
   rw[this];exact hc) (by intro u hu;rw[fE] at hu;subst hu;rfl) (by unfold maxLen;omega) (by omega) hB
  refine⟨v',w',hr, ?_,IJ h h3 hB,Jp h h3⟩;unfold bm;rw[bg,qA];exact h2
theorem DD {w:World} {ops:Array Oper} {o:Oper} {a:Act} {K:Act→World→Prop} {Q:Exit→Act→World→Prop} {E:Prop} (qN:o.guard=none) (sl x:Operand)
  (ho:o.op=.call {callee:=.builtin .append,args:= #[sl,x],argTypes:= #[48,48]})
  (B:Nat) (v:Value) (l:List UInt8) (b:UInt8) (g:Nat) (hs:a.eval sl=v) (hx:a.eval x=.slice (some ⟨g,0,none⟩) 1 1) (h:bm w B v l) (hc:w.cell? ⟨g,0,none⟩=some (bc b)) (hB:B≤w.heap.size) (hl:l.length+1≤100000000)
  (hK:∀v' w',bm w' B v' (l++[b])→Below B w w'→Kept w w'→K (a.put o.dst v') w'):
  if Region.wanted o (yielded ops a.tmps)=true then Oper.wp prog o a w K Q else E:=by
 have hw:Region.wanted o (yielded ops a.tmps)=true:=by simp[Region.wanted,qN]
 rw[af hw];obtain⟨v',w',hr,h1,h2,h3⟩:=La h hB b ⟨g,0,none⟩ 1 (by rw[nY];exact hc) hl o.type
 unfold Oper.wp execOp;simp only[ho,resolve,invoke,builtin,rT,Sem.run_pure,Result.andThen_ok,pN,ib,kK,hs,hx,hr];exact hK v' w' h1 h2 h3
open Go.RowKit
def pK (s:ByteArray):Nat→Nat→Nat
 | 0,_=>s.size
 | f+1,i=>if i < s.size then (if aj s i=93 then i else if aj s i=39 then pK s f (cq s (i+1)+1) else pK s f (i+1)) else s.size
theorem BE (s:ByteArray):∀f g i,s.size≤f+i→s.size≤g+i→pK s f i=pK s g i
 | 0,0,i,_,_=>rfl
 | 0,g+1,i,h,_=>by rw[pK,pK,ac (by omega)]
 | f+1,0,i,_,h=>by rw[pK,pK,ac (by omega)]
 | f+1,g+1,i,h1,h2=>by
  rw[pK,pK]
  by_cases hi:i < s.size
  ·have:=rE s (i+1) (by omega)
   rw[BE s f g (cq s (i+1)+1) (by omega) (by omega),BE s f g (i+1) (by omega) (by omega)]
  ·rw[ac hi,ac hi]
def cb (s:ByteArray) (i:Nat):Nat:=pK s s.size i
theorem As (s:ByteArray) (i:Nat):cb s i=if i < s.size then (if aj s i=93 then i else if aj s i=39 then cb s (cq s (i+1)+1) else cb s (i+1)) else s.size:=by
 unfold cb;rw[BE s s.size (s.size+1) i (by omega) (by omega),pK]
theorem Cq {s:ByteArray} {i:Nat} (h:s.size≤i):cb s i=s.size:=by rw[As,ac (by omega)]
theorem BZ {s:ByteArray} {i:Nat} (hb:aj s i=93):cb s i=i:=by rw[As,af (mx (by omega)),af hb]
theorem BC {s:ByteArray} {i:Nat} (hb:aj s i=39):cb s i=cb s (cq s (i+1)+1):=by rw[As,af (mx (by omega)),ac (by omega),af hb]
theorem BD {s:ByteArray} {i:Nat} (h:i < s.size) (hb:aj s i≠39) (hc:aj s i≠93):cb s i=cb s (i+1):=by rw[As,af h,ac hc,ac hb]
theorem Cp {s:ByteArray} {P:Nat→Prop} (h0:∀i,s.size≤i→P i) (h1:∀i,i < s.size→aj s i≠39→aj s i≠93→P (i+1)→P i) (h2:∀i,i < s.size→aj s i=39→P (cq s (i+1)+1)→P i) (h3:∀i,aj s i=93→P i):∀f i,s.size≤f+i→P i
 | 0,i,h=>h0 i (by omega)
 | f+1,i,h=>by
  rcases cX i s.size with hi | hi
  ·by_cases hb:aj s i=39
   ·have:=rE s (i+1) (by omega)
    exact h2 i hi hb (Cp h0 h1 h2 h3 f _ (by omega))
   ·by_cases hc:aj s i=93
    ·exact h3 i hc
    ·exact h1 i hi hb hc (Cp h0 h1 h2 h3 f (i+1) (by omega))
  ·exact h0 i hi
theorem CJ (s:ByteArray) (i:Nat) (h:i≤s.size):i≤cb s i∧cb s i≤s.size:=
 Cp (P:=fun i=>i≤s.size→i≤cb s i∧cb s i≤s.size) (fun i hi h=>by rw[Cq hi];omega) (fun i hi hb hc ih h=>by rw[BD hi hb hc];have:=ih (by omega);omega)
  (fun i hi hb ih h=>by
   rw[BC hb];have h1:=rE s (i+1) (by omega)
   by_cases hq:cq s (i+1)+1≤s.size
   ·have:=ih hq;omega
   ·rw[Cq (by omega)];omega) (fun i hb h=>by rw[BZ hb];omega) s.size i (by omega) h
def uI (b:Nat):Bool:=[61,63,38,43,45,42,47,37,40,41,60,62,44,58,36].contains b
structure Tk where
 k:Nat
 t:ByteArray
 a:Nat
def tk (s:ByteArray) (i:Nat):Nat × Nat × ByteArray:=
 if di (aj s i)=true then (1,dd s dF i,s.extract i (dd s dF i))
 else if cW (aj s i)=true then (2,dd s cW i,s.extract i (dd s cW i))
 else if aj s i=39 then (if cq s (i+1)=s.size then (0,s.size,ByteArray.empty) else (3,cq s (i+1)+1,⟨(ct s (i+1)).toArray⟩))
 else if aj s i=91 then (if cb s (i+1)=s.size then (0,s.size,ByteArray.empty) else (4,cb s (i+1)+1,s.extract (i+1) (cb s (i+1))))
 else if aj s i=58∧aj s (i+1)=61 then (5,i+2,s.extract i (i+2))
 else if uI (aj s i)=true then (5,i+1,s.extract i (i+1))
 else (0,i,ByteArray.empty)
theorem AW {b:Nat} (h:di b=true):65≤b∧b≤90:=mG h
theorem Dc {b:Nat} (h:cW b=true):48≤b∧b≤57:=mG h
theorem yC (s:ByteArray) (i:Nat) (h:i < s.size):i≤(tk s i).2.1∧(tk s i).2.1≤s.size∧((tk s i).1≠0→i < (tk s i).2.1)∧(tk s i).1≤5:=by
 unfold tk;have hq:=rE s (i+1) (by omega)
 have hb:=CJ s (i+1) (by omega)
 split
 ·rename_i hl
  have:=mW s dF (i+1) (by omega)
  rw[nJ h (by unfold dF;rw[hl];rfl)]
  refine⟨?_, ?_,fun _=> ?_, ?_⟩ <;> dsimp only <;> omega
 ·split
  ·rename_i hl
   have:=mW s cW (i+1) (by omega)
   rw[nJ h hl];refine⟨?_, ?_,fun _=> ?_, ?_⟩ <;> dsimp only <;> omega
  ·split
   ·split
    ·refine⟨?_, ?_,fun h=>absurd rfl h, ?_⟩ <;> dsimp only <;> omega
    ·refine⟨?_, ?_,fun _=> ?_, ?_⟩ <;> dsimp only <;> omega
   ·split
    ·split
     ·refine⟨?_, ?_,fun h=>absurd rfl h, ?_⟩ <;> dsimp only <;> omega
     ·refine⟨?_, ?_,fun _=> ?_, ?_⟩ <;> dsimp only <;> omega
    ·split
     ·rename_i hc
      have:=mx (s:=s) (i:=i+1) (by omega)
      refine⟨?_, ?_,fun _=> ?_, ?_⟩ <;> dsimp only <;> omega
     ·split
      ·refine⟨?_, ?_,fun _=> ?_, ?_⟩ <;> dsimp only <;> omega
      ·refine⟨?_, ?_,fun h=>absurd rfl h, ?_⟩ <;> dsimp only <;> omega
def qy (s:ByteArray):Nat→Nat→List Tk→List Tk × Nat × Nat
 | 0,_,l=>(l,0,0)
 | f+1,i,l=>if dd s d5 i < s.size then (if (tk s (dd s d5 i)).1=0 then ([],2,(tk s (dd s d5 i)).2.1) else qy s f (tk s (dd s d5 i)).2.1 (l++[⟨(tk s (dd s d5 i)).1,(tk s (dd s d5 i)).2.2,dd s d5 i⟩])) else (l,0,0)
theorem Ep (s:ByteArray):∀f g i l,i≤s.size→s.size≤f+i→s.size≤g+i→qy s f i l=qy s g i l
 | 0,0,i,l,_,_,_=>rfl
 | 0,g+1,i,l,hi,h,_=>by have:=mW s d5 i hi;rw[qy,qy,ac (by omega)]
 | f+1,0,i,l,hi,_,h=>by have:=mW s d5 i hi;rw[qy,qy,ac (by omega)]
 | f+1,g+1,i,l,hi,h1,h2=>by
  rw[qy,qy]
  by_cases hp:dd s d5 i < s.size
  ·rw[af hp,af hp]
   by_cases hk:(tk s (dd s d5 i)).1=0
   ·rw[af hk,af hk]
   ·have h3:=yC s _ hp
    have h4:=h3.2.2.1 hk;have h5:=mW s d5 i hi;rw[ac hk,ac hk];exact Ep s f g _ _ h3.2.1 (by omega) (by omega)
  ·rw[ac hp,ac hp]
def ln (s:ByteArray) (i:Nat) (l:List Tk):List Tk × Nat × Nat:=qy s s.size i l
theorem wj (s:ByteArray) (i:Nat) (l:List Tk) (h:i≤s.size):ln s i l=if dd s d5 i < s.size then (if (tk s (dd s d5 i)).1=0 then ([],2,(tk s (dd s d5 i)).2.1) else ln s (tk s (dd s d5 i)).2.1 (l++[⟨(tk s (dd s d5 i)).1,(tk s (dd s d5 i)).2.2,dd s d5 i⟩])) else (l,0,0):=by
 unfold ln;rw[Ep s s.size (s.size+1) i l h (by omega) (by omega),qy]
theorem Eo {s:ByteArray} {i:Nat} {l:List Tk} (h:i < s.size) (hb:aj s i=32):ln s i l=ln s (i+1) l:=by
 rw[wj s i l (by omega),wj s (i+1) l (by omega),nJ h (by unfold d5;rw[hb];rfl)]
theorem Ci {s:ByteArray} {l:List Tk}:ln s s.size l=(l,0,0):=by
 rw[wj s _ l (ax _),ac];have:=mW s d5 s.size (ax _);omega
theorem Fg {s:ByteArray} {i:Nat} {l:List Tk} (h:i≤s.size):ln s i l=ln s (dd s d5 i) l:=by
 have h1:=mW s d5 i h;have h2:dd s d5 (dd s d5 i)=dd s d5 i:=oA fun h=>zF h
 rw[wj s i l h,wj s _ l h1.2,h2]
theorem Gp {s:ByteArray} {i:Nat} {l:List Tk} (h:i < s.size) (hb:aj s i≠32) (hk:(tk s i).1=0):ln s i l=([],2,(tk s i).2.1):=by
 have hp:dd s d5 i=i:=oA fun _=>dh hb
 rw[wj s i l (by omega),hp,af h,af hk]
theorem Cg {s:ByteArray} {i:Nat} {l:List Tk} (h:i < s.size) (hb:aj s i≠32) (hk:(tk s i).1≠0):ln s i l=ln s (tk s i).2.1 (l++[⟨(tk s i).1,(tk s i).2.2,i⟩]):=by
 have hp:dd s d5 i=i:=oA fun _=>dh hb
 rw[wj s i l (by omega),hp,af h,ac hk]
theorem Ch {s:ByteArray} {P:Nat→List Tk→Prop} (h0:∀l,P s.size l) (h1:∀i l,i < s.size→aj s i=32→P (i+1) l→P i l) (h2:∀i l,i < s.size→aj s i≠32→(tk s i).1=0→P i l)
  (h3:∀i l,i < s.size→aj s i≠32→(tk s i).1≠0→P (tk s i).2.1 (l++[⟨(tk s i).1,(tk s i).2.2,i⟩])→P i l):∀f i l,i≤s.size→s.size≤f+i→P i l
 | 0,i,l,hi,h=>by rw[show i=s.size by omega];exact h0 l
 | f+1,i,l,hi,h=>by
  rcases cX i s.size with au | jc
  ·by_cases hb:aj s i=32
   ·exact h1 i l au hb (Ch h0 h1 h2 h3 f (i+1) l (by omega) (by omega))
   ·by_cases hk:(tk s i).1=0
    ·exact h2 i l au hb hk
    ·have h4:=yC s i au
     have h5:=h4.2.2.1 hk;exact h3 i l au hb hk (Ch h0 h1 h2 h3 f _ _ h4.2.1 (by omega))
  ·rw[show i=s.size by omega];exact h0 l
def gc (s:ByteArray):List Tk × Nat × Nat:=if 2000 < s.size then ([],4,0) else ln s 0 []
end Go.Proofs.YtlmnjbipfacniaaGreatDoor
