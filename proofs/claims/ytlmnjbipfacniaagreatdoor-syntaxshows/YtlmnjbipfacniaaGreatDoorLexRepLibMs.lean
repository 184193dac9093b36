/- A pattern's text, and how a text grows that is given up when -/
import Derived.Test.YtlmnjbipfacniaaGreatDoorPatWrongPs
import Derived.Lib.ItoaNum
import Derived.Lib.OthersKept
import Derived.Lib.AppendStr
import Derived.Maps.AppendAt
import Derived.Deep.RegionHeld3
import Derived.Below
import Derived.Shelf.LaysM
import Derived.Shelf.Strings.Replace
import Derived.Shelf.Strings.SplitShaped
import Derived.Test.YtlmnjbipfacniaaGreatDoorProg
set_option maxRecDepth 100000
namespace Go.Proofs.YtlmnjbipfacniaaGreatDoor
open Go.Proofs.Tryz
def et (l:List UInt8):List UInt8:=39::(l.flatMap fun c=>if c=39 then [39,39] else [c])++[39]
def lc (parent kid:Int):Bool:=decide (kid=19) || (decide (kid=18) && decide (parent≠19))
def iy (sep:List UInt8) (f:Nat→List UInt8):Nat→List UInt8
 | 0=>[]
 | i+1=>iy sep f i++(if 0 < i then sep else [])++f i
def rZ (b:Bool) (t:List UInt8):List UInt8:=if b then 40::t++[41] else t
def xw (k:Int) (t:ByteArray) (n:Int) (nm:ByteArray) (len:Nat) (kt:Nat→List UInt8) (kk:Nat→Int):List UInt8:=
 if k=1 then et t.data.toList
 else if k=18 then iy [32] (fun i=>rZ (lc k (kk i)) (kt i)) len
 else if k=19 then iy [32,124,32] (fun i=>rZ (lc k (kk i)) (kt i)) len
 else if k=21 then iy [] (fun i=>rZ (lc k (kk i)) (kt i)) len++[32,46,32]++nm.data.toList
 else if k=22 then iy [] (fun i=>rZ (lc k (kk i)) (kt i)) len++[32,36,32]++nm.data.toList
 else if k=23 then 64::nm.data.toList
 else if k=24 then 42::nm.data.toList
 else (aT k.toNat).data.toList++(if aO k=2 then 40::Lib.itoa n++[41] else if aO k=1 then 40::et t.data.toList++[41] else if k=20 then 40::kt 0++[41] else [])
def Am:List UInt8:=xw 0 ByteArray.empty 0 ByteArray.empty 0 (fun _=>[]) (fun _=>0)
def PT.txt:PT→List UInt8
 | .node k t n nm _ _ _ len _ kids=>xw k t n nm len (kf len Am fun i=>PT.txt (kids i)) (kf len 0 fun i=>(kids i).k)
theorem MH:PT.nul.txt=Am:=by
 show xw 0 ByteArray.empty 0 ByteArray.empty 0 _ _=xw 0 ByteArray.empty 0 ByteArray.empty 0 _ _;unfold xw;simp only[show ¬((0:Int)=1) by decide,show ¬((0:Int)=18) by decide,show ¬((0:Int)=19) by decide,show ¬((0:Int)=20) by decide,show ¬((0:Int)=21) by decide,show ¬((0:Int)=22) by decide,show ¬((0:Int)=23) by decide,show ¬((0:Int)=24) by decide,if_false]
def PT.kidT (T:PT) (i:Nat):List UInt8:=rZ (lc T.k (T.kid i).k) (T.kid i).txt
theorem PT.txt_eq {T:PT} (_:1≤T.k):T.txt=
  if T.k=1 then et T.t.data.toList
  else if T.k=18 then iy [32] T.kidT T.len
  else if T.k=19 then iy [32,124,32] T.kidT T.len
  else if T.k=21 then iy [] T.kidT T.len++[32,46,32]++T.nm.data.toList
  else if T.k=22 then iy [] T.kidT T.len++[32,36,32]++T.nm.data.toList
  else if T.k=23 then 64::T.nm.data.toList
  else if T.k=24 then 42::T.nm.data.toList
  else (aT T.k.toNat).data.toList++(if aO T.k=2 then 40::Lib.itoa T.n++[41] else if aO T.k=1 then 40::et T.t.data.toList++[41] else if T.k=20 then 40::(T.kid 0).txt++[41] else []):=by
 have h1:(kf T.len Am fun i=>PT.txt (T.kids i))=fun i=>(T.kid i).txt:=by
  funext i
  by_cases h:i < T.len
  ·rw[ta h,PT.kid_at h]
  ·unfold kf PT.kid
   rw[dif_neg h,dif_neg h,MH]
 have h2:(kf T.len 0 fun i=>(T.kids i).k)=fun i=>(T.kid i).k:=by
  funext i
  by_cases h:i < T.len
  ·rw[ta h,PT.kid_at h]
  ·unfold kf PT.kid
   rw[dif_neg h,dif_neg h];rfl
 have e:T.txt=xw T.k T.t T.n T.nm T.len (kf T.len Am fun i=>PT.txt (T.kids i)) (kf T.len 0 fun i=>(T.kids i).k):=by cases T;rfl
 rw[e,h1,h2];rfl
structure Grew (l t r:List UInt8) (c:Nat):Prop where
 same:(l++t).length≤65536→r=l++t
 long:65536 < (l++t).length→65536 < r.length
 most:r.length≤max l.length 196700+c
 up:l.length≤r.length
theorem Grew.refl (l:List UInt8):Grew l [] l 0:=⟨fun _=>(lf l).symm,fun h=>by simpa using h,by omega,aw _⟩
theorem Grew.gave (l t:List UInt8) (h:65536 < l.length):Grew l t l 0:=⟨fun x=>by rw[be] at x;omega,fun _=>h,by omega,aw _⟩
theorem Grew.put (l t:List UInt8):Grew l t (l++t) t.length:=⟨fun _=>rfl,fun h=>h,by rw[be];omega,by rw[be];omega⟩
theorem Grew.leaf (l t:List UInt8) (hl:l.length≤65536) (ht:t.length≤131100):Grew l t (l++t) 0:=⟨fun _=>rfl,fun h=>h,by rw[be];omega,by rw[be];omega⟩
theorem Grew.trans {l t1 r1 t2 r2:List UInt8} {c1 c2:Nat} (h:Grew l t1 r1 c1) (k:Grew r1 t2 r2 c2):Grew l (t1++t2) r2 (c1+c2):=by
 have hm:=h.most;have km:=k.most;have hu:=h.up;have ku:=k.up;refine⟨fun x=> ?_,fun x=> ?_,by omega,by omega⟩
 ·rw[be,be] at x
  have e:=h.same (by rw[be];omega)
  subst e;rw[k.same (by simp only[be];omega),fT]
 ·rcases cG 65536 (l++t1).length with y | y
  ·have:=h.long y;omega
  ·have e:=h.same y
   subst e;exact k.long (by rw[fT];exact x)
theorem Grew.more {l t r:List UInt8} {c d:Nat} (h:Grew l t r c) (hc:c≤d):Grew l t r d:=⟨h.same,h.long,by have:=h.most;omega,h.up⟩
theorem Grew.cast {l t t' r:List UInt8} {c:Nat} (h:Grew l t r c) (e:t=t'):Grew l t' r c:=e▸h
theorem AT (l:List UInt8):(et l).length≤2 * l.length+2:=by
 have:∀l:List UInt8,(l.flatMap fun c=>if c=39 then [39,39] else [c]).length≤2 * l.length:=by
  intro l
  induction l with
  | nil=>simp
  | cons x l ih=>
   rw[gU,be,List.length_cons];have:(if x=39 then [39,39] else [x]:List UInt8).length≤2:=by split <;> simp
   omega
 have:=this l;unfold et;rw[be,List.length_cons,List.length_singleton];omega
open Go.RowKit
def bc (b:UInt8):Value:=.int .u8 (b.toNat:Int)
def aZ (w:World) (B:Nat) (v:Value) (l:List UInt8):Prop:=w.ownsRow B 5 1 v l.length (l.map bc)
abbrev yE (w w':World):Prop:=Lib.OthersKept 5 none w w'
theorem xg:(prog.info? 5).map (fun i=>(i.zero,i.size,i.bytes))=some (some (.int .u8 0),1,1):=by kernel_rfl
theorem aZ.later {w w':World} {B:Nat} {v:Value} {l:List UInt8} (h:aZ w B v l) (hb:Below w.heap.size w w'):aZ w' B v l:=JC h hb
theorem C6 {w w':World} {B:Nat} {v:Value} {l:List UInt8} (h:aZ w B v l) (hg:w.grownBy w' v.ownBlock):yE w w':=by
 intro k o hk _ ho;refine(hg.block k (bC.1 hk).1 fun e=> ?_).trans hk
 rcases h.2 with ⟨rfl,_⟩ | ⟨g,cap,cur,rfl,_,vi,_⟩
 ·cases e
 ·have:k=g:=by simpa [Value.ownBlock] using e
  subst this;rw[hk] at vi;exact ho _ _ (lK vi)
theorem CV {w w':World} {B:Nat} {v:Value} {l:List UInt8} (h:aZ w B v l) (hg:w.grownBy w' v.ownBlock) (hB:B≤w.heap.size):Below B w w':=
 (aV B w).grown hg hB (fun i hi=>(uO h i hi).1)
theorem Mg {w:World} {B:Nat} {v:Value} {l:List UInt8} (h:aZ w B v l) (hB:B≤w.heap.size) (s:ByteArray) (hl:l.length+s.size≤100000000) (ty:TypeId):
  ∃v' w',(Builtin.append_ #[48,9] ty #[v,.string s]).run prog w=.ok v' w'∧aZ w' B v' (l++s.data.toList)∧Below B w w'∧yE w w':=by
 have gB:=xg
 cases hi:prog.info? 5 with
 | none=>simp[hi] at gB
 | some i0=>
  simp only[hi,Option.map_some,uK,nh] at gB;obtain⟨j5,kI,lZ⟩:=gB;obtain⟨v',w',hr,h2,h3, -⟩:=Lib.run_append_own_string (P:=prog) w B 48 9 ty 5 i0 underlying48 underlying9 hi j5 kI lZ v l.length (l.map bc) h s (by unfold maxLen;omega) (by omega) hB
  refine⟨v',w',hr, ?_,CV h h3 hB,C6 h h3⟩;unfold aZ;rw[be,oU];have e1:s.data.toList.length=s.size:=by simp
  rw[e1];exact h2
theorem DO {w:World} {B:Nat} {v:Value} {l:List UInt8} (h:aZ w B v l) (hB:B≤w.heap.size) (b:UInt8) (ad:Addr) (c:Nat) (hc:w.cell? (ad.add 0)=some (bc b)) (hl:l.length+1≤100000000) (ty:TypeId):
  ∃v' w',(Builtin.append_ #[48,48] ty #[v,.slice (some ad) 1 c]).run prog w=.ok v' w'∧aZ w' B v' (l++[b])∧Below B w w'∧yE w w':=by
 have gB:=xg
 cases hi:prog.info? 5 with
 | none=>simp[hi] at gB
 | some i0=>
  simp only[hi,Option.map_some,uK,nh] at gB;obtain⟨j5,kI,lZ⟩:=gB;obtain⟨v',w',hr,h2,h3, -, -⟩:=run_append_own_at (P:=prog) w B 48 ty 5 i0 (.int .u8 0) 1 1 underlying48 hi j5 kI lZ rfl (by decide) v l.length (l.map bc) h ad 1 c [bc b] rfl (fun j u hj=>by
   have hj0:j=0:=by have:=(mG.1 hj).1;simpa using this
   subst hj0;have:u=bc b:=by simpa using hj.symm
   rw[this];exact hc) (by intro u hu;rw[jv] at hu;subst hu;rfl) (by unfold maxLen;omega) (by omega) hB
  refine⟨v',w',hr, ?_,CV h h3 hB,C6 h h3⟩;unfold aZ;rw[be,oU];exact h2
theorem LZ {w:World} {ops:Array Oper} {rest:List Oper} {o:Oper} {a:Act} {Q:Exit→Act→World→Prop} (nD:o.guard=none) (sl x:Operand)
  (ho:o.op=.call {callee:=.builtin .append,args:= #[sl,x],argTypes:= #[48,9]})
  (B:Nat) (v:Value) (l:List UInt8) (s:ByteArray) (hs:a.eval sl=v) (hx:a.eval x=.string s) (h:aZ w B v l) (hB:B≤w.heap.size) (hl:l.length+s.size≤100000000)
  (hK:∀v' w',aZ w' B v' (l++s.data.toList)→Below B w w'→yE w w'→wpList prog ops Q rest (a.put o.dst v') w'):wpList prog ops Q (o::rest) a w:=by
 refine wpList_plain nD fun K hK'=> ?_
 obtain⟨v',w',hr,h1,h2,h3⟩:=Mg h hB s hl o.type;unfold Oper.wp execOp;simp only[ho,resolve,invoke,builtin,qd,Sem.run_pure,Result.andThen_ok,oh,fM,jM,hs,hx,hr];exact hK' _ _ (hK v' w' h1 h2 h3)
theorem Di {w:World} {ops:Array Oper} {o:Oper} {a:Act} {K:Act→World→Prop} {Q:Exit→Act→World→Prop} {E:Prop} (nD:o.guard=none) (sl x:Operand)
  (ho:o.op=.call {callee:=.builtin .append,args:= #[sl,x],argTypes:= #[48,48]})
  (B:Nat) (v:Value) (l:List UInt8) (b:UInt8) (g:Nat) (hs:a.eval sl=v) (hx:a.eval x=.slice (some ⟨g,0,none⟩) 1 1) (h:aZ w B v l) (hc:w.cell? ⟨g,0,none⟩=some (bc b)) (hB:B≤w.heap.size) (hl:l.length+1≤100000000)
  (hK:∀v' w',aZ w' B v' (l++[b])→Below B w w'→yE w w'→K (a.put o.dst v') w'):
  if Region.wanted o (yielded ops a.tmps)=true then Oper.wp prog o a w K Q else E:=by
 have hw:Region.wanted o (yielded ops a.tmps)=true:=by simp[Region.wanted,nD]
 rw[af hw];obtain⟨v',w',hr,h1,h2,h3⟩:=DO h hB b ⟨g,0,none⟩ 1 (by rw[lL];exact hc) hl o.type
 unfold Oper.wp execOp;simp only[ho,resolve,invoke,builtin,qd,Sem.run_pure,Result.andThen_ok,oh,fM,jM,hs,hx,hr];exact hK v' w' h1 h2 h3
open Go.RowKit
structure Ext (w w':World) (v v':Value):Prop where
 grown:w.grownBy w' v.ownBlock
 lies:v'.ownBlock=v.ownBlock∨∀k,v'.ownBlock=some k→w.heap.size≤k
theorem Ext.below {w w':World} (v:Value) (h:Below w.heap.size w w'):Ext w w' v v:=⟨⟨h.os,h.tape,h.output,h.size,fun k hk _=>h.block k hk⟩,.inl rfl⟩
theorem Ext.trans {a b c:World} {v1 v2 v3:Value} (h:Ext a b v1 v2) (k:Ext b c v2 v3):Ext a c v1 v3:=by
 refine⟨⟨k.grown.os.trans h.grown.os,k.grown.tape.trans h.grown.tape,k.grown.output.trans h.grown.output,bv h.grown.size k.grown.size,fun i hi bi=> ?_⟩, ?_⟩
 ·refine(k.grown.block i (gL hi h.grown.size) fun e=> ?_).trans (h.grown.block i hi bi)
  rcases h.lies with x | x
  ·exact bi (e.trans x)
  ·have:=x i e.symm
   omega
 ·rcases k.lies with x | x
  ·rcases h.lies with y | y
   ·exact .inl (x.trans y)
   ·exact .inr fun q hq=>y q (x▸hq)
  ·exact .inr fun q hq=>bv h.grown.size (x q hq)
theorem Ext.row {w w':World} {v v':Value} (h:Ext w w' v v') {n:Nat} {x:Obj} (hn:some n≠v.ownBlock) (hx:w.heap[n]? =some x):w'.heap[n]? =some x:=
 (h.grown.block n (bC.1 hx).1 hn).trans hx
theorem Ext.bel {w w':World} {v v':Value} {B:Nat} {l:List UInt8} (h:Ext w w' v v') (hv:aZ w B v l) (hB:B≤w.heap.size):Below B w w':=
 (aV B w).grown h.grown hB (fun i hi=>(uO hv i hi).1)
theorem aZ.apart {w:World} {B:Nat} {v:Value} {l:List UInt8} (h:aZ w B v l) {n:Nat} (hn:w.heap.size≤n):some n≠v.ownBlock:=fun e=>by
 have:=(uO h n e.symm).2;omega
theorem Ey {w:World} {B:Nat} {v:Value} {l:List UInt8} (h:aZ w B v l) (hB:B≤w.heap.size) (s:ByteArray) (hl:l.length+s.size≤100000000) (ty:TypeId):
  ∃v' w',(Builtin.append_ #[48,9] ty #[v,.string s]).run prog w=.ok v' w'∧aZ w' B v' (l++s.data.toList)∧Ext w w' v v':=by
 have gB:=xg
 cases hi:prog.info? 5 with
 | none=>simp[hi] at gB
 | some i0=>
  simp only[hi,Option.map_some,uK,nh] at gB;obtain⟨j5,kI,lZ⟩:=gB;obtain⟨v',w',hr,h2,h3,h4⟩:=Lib.run_append_own_string (P:=prog) w B 48 9 ty 5 i0 underlying48 underlying9 hi j5 kI lZ v l.length (l.map bc) h s (by unfold maxLen;omega) (by omega) hB
  have cL:v'.ownBlock=v.ownBlock∨∀k,v'.ownBlock=some k→w.heap.size≤k:=by
   rcases h.2 with ⟨rfl,h0⟩ | ⟨g,cap,cur,rfl,nE,hg,hnc,vj,jg,htake⟩
   ·by_cases hm:s.size=0
    ·left
     rw[h4.2 ⟨rfl,hm⟩]
    ·right
     have hx:=run_append_nil_string (P:=prog) w 48 9 ty 5 i0 (.int .u8 0) underlying48 underlying9 hi j5 s (by omega) (by omega) (by rw[lZ];omega)
     rw[hr] at hx;injection hx with e1 e2
     intro k hk;rw[e1] at hk
     cases hk
     exact aw _
   ·by_cases hroom:l.length+s.size≤cap
    ·left
     have hcs':cur.size=cap:=by simpa using jg
     have hx:=Lib.run_append_room_string (P:=prog) w 48 9 ty 5 i0 underlying48 underlying9 hi kI g l.length cap cur hg s hroom (by omega)
     rw[hr] at hx;injection hx with e1 e2
     rw[e1];rfl
    ·right
     have hx:=Lib.run_append_grow_string (P:=prog) w 48 9 ty 5 i0 (.int .u8 0) underlying48 underlying9 hi j5 ⟨g,0,none⟩ l.length cap (l.map bc) (by rw[kI];simp) (World.ownsRow.cells h rfl) s (by omega) (by omega) (by rw[lZ];exact growslice_fits (by omega) (by omega))
     rw[hr] at hx;injection hx with e1 e2
     intro k hk;rw[e1] at hk
     cases hk
     exact aw _
  refine⟨v',w',hr, ?_,h3,cL⟩;unfold aZ;rw[be,oU];have e1:s.data.toList.length=s.size:=by simp
  rw[e1];exact h2
theorem LI {w:World} {B:Nat} {v:Value} {l:List UInt8} (h:aZ w B v l) (hB:B≤w.heap.size) (b:UInt8) (ad:Addr) (c:Nat) (hc:w.cell? (ad.add 0)=some (bc b)) (hl:l.length+1≤100000000) (ty:TypeId):
  ∃v' w',(Builtin.append_ #[48,48] ty #[v,.slice (some ad) 1 c]).run prog w=.ok v' w'∧aZ w' B v' (l++[b])∧Ext w w' v v':=by
 have gB:=xg
 cases hi:prog.info? 5 with
 | none=>simp[hi] at gB
 | some i0=>
  simp only[hi,Option.map_some,uK,nh] at gB;obtain⟨j5,kI,lZ⟩:=gB;obtain⟨v',w',hr,h2,h3, -,h5⟩:=run_append_own_at (P:=prog) w B 48 ty 5 i0 (.int .u8 0) 1 1 underlying48 hi j5 kI lZ rfl (by decide) v l.length (l.map bc) h ad 1 c [bc b] rfl (fun j u hj=>by
   have hj0:j=0:=by have:=(mG.1 hj).1;simpa using this
   subst hj0;have:u=bc b:=by simpa using hj.symm
   rw[this];exact hc) (by intro u hu;rw[jv] at hu;subst hu;rfl) (by unfold maxLen;omega) (by omega) hB
  refine⟨v',w',hr, ?_,h3, ?_⟩
  ·unfold aZ
   rw[be,oU];exact h2
  ·rcases h5 with e | e
   ·exact .inl e
   ·exact .inr fun k hk=>by rw[e] at hk;cases hk;exact aw _
theorem rL {w:World} {ops:Array Oper} {rest:List Oper} {o:Oper} {a:Act} {Q:Exit→Act→World→Prop} (nD:o.guard=none) (sl x:Operand)
  (ho:o.op=.call {callee:=.builtin .append,args:= #[sl,x],argTypes:= #[48,9]})
  (B:Nat) (v:Value) (l:List UInt8) (s:ByteArray) (hs:a.eval sl=v) (hx:a.eval x=.string s) (h:aZ w B v l) (hB:B≤w.heap.size) (hl:l.length+s.size≤100000000)
  (hK:∀v' w',aZ w' B v' (l++s.data.toList)→Ext w w' v v'→wpList prog ops Q rest (a.put o.dst v') w'):wpList prog ops Q (o::rest) a w:=by
 refine wpList_plain nD fun K hK'=> ?_
 obtain⟨v',w',hr,h1,h2⟩:=Ey h hB s hl o.type;unfold Oper.wp execOp;simp only[ho,resolve,invoke,builtin,qd,Sem.run_pure,Result.andThen_ok,oh,fM,jM,hs,hx,hr];exact hK' _ _ (hK v' w' h1 h2)
end Go.Proofs.YtlmnjbipfacniaaGreatDoor
namespace Go.Proofs
open Go.Shelf Go.RowKit Go.Lib
def Tryz.lays155_ren:Go.Shelf.Ren:=⟨fun | 155=>92 | 154=>132 | 138=>139 | 165=>81 | 143=>125 | 166=>82 | 197=>148 | 169=>83 | 195=>153 | 218=>154 | 240=>129 | 241=>130 | 219=>143 | 260=>164 | 276=>145 | 277=>146 | 217=>131 | 225=>157 | 224=>158 | 267=>159 | 266=>147 | 314=>170 | n=>n,fun | 9=>9 | 3=>3 | 4=>4 | 72=>133 | 0=>0 | 76=>136 | 105=>182 | 21=>21 | 5=>5 | 70=>131 | 20=>20 | 37=>48 | 75=>135 | 127=>167 | 164=>179 | 46=>190 | 119=>206 | 139=>209 | 138=>208 | 146=>200 | 51=>199 | 80=>106 | n=>n,fun | 1=>2 | 3=>4 | 4=>5 | n=>n⟩
theorem Tryz.lays155:Go.Proofs.Lays.n155 Tryz.prog Tryz.lays155_ren:={
 mixed:=by kernel_rfl
 f138:=Tryz.func139.trans (congrArg some (by kernel_rfl))
 f143:=Tryz.func125.trans (congrArg some (by kernel_rfl))
 f154:=Tryz.func132.trans (congrArg some (by kernel_rfl))
 f155:=Tryz.func92.trans (congrArg some (by kernel_rfl))
 f165:=Tryz.func81.trans (congrArg some (by kernel_rfl))
 f166:=Tryz.func82.trans (congrArg some (by kernel_rfl))
 f169:=Tryz.func83.trans (congrArg some (by kernel_rfl))
 f195:=Tryz.func153.trans (congrArg some (by kernel_rfl))
 f197:=Tryz.func148.trans (congrArg some (by kernel_rfl))
 f217:=Tryz.func131.trans (congrArg some (by kernel_rfl))
 f218:=Tryz.func154.trans (congrArg some (by kernel_rfl))
 f219:=Tryz.func143.trans (congrArg some (by kernel_rfl))
 f224:=Tryz.func158.trans (congrArg some (by kernel_rfl))
 f225:=Tryz.func157.trans (congrArg some (by kernel_rfl))
 f240:=Tryz.func129.trans (congrArg some (by kernel_rfl))
 f241:=Tryz.func130.trans (congrArg some (by kernel_rfl))
 f260:=Tryz.func164.trans (congrArg some (by kernel_rfl))
 f266:=Tryz.func147.trans (congrArg some (by kernel_rfl))
 f267:=Tryz.func159.trans (congrArg some (by kernel_rfl))
 f276:=Tryz.func145.trans (congrArg some (by kernel_rfl))
 f277:=Tryz.func146.trans (congrArg some (by kernel_rfl))
 f314:=Tryz.func170.trans (congrArg some (by kernel_rfl))
 t0:=Tryz.underlying0
 a0:=Tryz.isAgg0
 z0:=Tryz.sizeOf0
 v0:=Tryz.zeroValue0
 t3:=Tryz.underlying3
 a3:=Tryz.isAgg3
 z3:=Tryz.sizeOf3
 v3:=Tryz.zeroValue3
 t4:=Tryz.underlying4
 a4:=Tryz.isAgg4
 z4:=Tryz.sizeOf4
 v4:=Tryz.zeroValue4
 t5:=Tryz.underlying5
 a5:=Tryz.isAgg5
 z5:=Tryz.sizeOf5
 v5:=Tryz.zeroValue5
 t9:=Tryz.underlying9
 a9:=Tryz.isAgg9
 z9:=Tryz.sizeOf9
 v9:=Tryz.zeroValue9
 t20:=Tryz.underlying20
 a20:=Tryz.isAgg20
 z20:=Tryz.sizeOf20
 v20:=Tryz.zeroValue20
 t21:=Tryz.underlying21
 a21:=Tryz.isAgg21
 z21:=Tryz.sizeOf21
 v21:=Tryz.zeroValue21
 t37:=Tryz.underlying48
 a37:=Tryz.isAgg48
 z37:=Tryz.sizeOf48
 v37:=Tryz.zeroValue48
 t46:=Tryz.underlying190
 a46:=Tryz.isAgg190
 z46:=Tryz.sizeOf190
 v46:=Tryz.zeroValue190
 t51:=Tryz.underlying199
 a51:=Tryz.isAgg199
 z51:=Tryz.sizeOf199
 v51:=Tryz.zeroValue199
 t70:=Tryz.underlying131
 a70:=Tryz.isAgg131
 z70:=Tryz.sizeOf131
 v70:=Tryz.zeroValue131
 t72:=Tryz.underlying133
 a72:=Tryz.isAgg133
 z72:=Tryz.sizeOf133
 v72:=Tryz.zeroValue133
 t75:=Tryz.underlying135
 a75:=Tryz.isAgg135
 z75:=Tryz.sizeOf135
 v75:=Tryz.zeroValue135
 t76:=Tryz.underlying136
 a76:=Tryz.isAgg136
 z76:=Tryz.sizeOf136
 v76:=Tryz.zeroValue136
 t105:=Tryz.underlying182
 a105:=Tryz.isAgg182
 z105:=Tryz.sizeOf182
 v105:=Tryz.zeroValue182
 t119:=Tryz.underlying206
 a119:=Tryz.isAgg206
 z119:=Tryz.sizeOf206
 t127:=Tryz.underlying167
 a127:=Tryz.isAgg167
 z127:=Tryz.sizeOf167
 v127:=Tryz.zeroValue167
 t138:=Tryz.underlying208
 a138:=Tryz.isAgg208
 z138:=Tryz.sizeOf208
 v138:=Tryz.zeroValue208
 t139:=Tryz.underlying209
 a139:=Tryz.isAgg209
 z139:=Tryz.sizeOf209
 v139:=Tryz.zeroValue209
 t146:=Tryz.underlying200
 a146:=Tryz.isAgg200
 z146:=Tryz.sizeOf200
 v146:=Tryz.zeroValue200
 t164:=Tryz.underlying179
 a164:=Tryz.isAgg179
 z164:=Tryz.sizeOf179
 v164:=Tryz.zeroValue179
 g1:=by kernel_rfl
 g3:=by kernel_rfl
 g4:=by kernel_rfl}
theorem Tryz.Builder_Extra_155:Builder.Extra Tryz.prog Tryz.lays155_ren:={
 sizeBuilder:=by kernel_rfl
 liesBuilder:=by kernel_rfl
 t5:=Tryz.underlying5
 a5:=Tryz.isAgg5
 z5:=Tryz.sizeOf5
 v5:=Tryz.zeroValue5
 infoByte:=by kernel_rfl
 cellsByte:=by kernel_rfl
 sizeByte:=by kernel_rfl
 neB5:=by decide}
theorem Tryz.strings_ReplaceAll (s old new:ByteArray) (m:Int) (w:World) (hs:s.size < 4294967281) (hm:w.cell? ⟨2,0,none⟩=some (.int .i64 m)) (h1:1≤old.size) (hlen:s.size+Lib.countB s old * new.size≤140737488355328):
  Calls Tryz.prog 92 #[.string s,.string old,.string new] w fun e w'=>
   e=.returned (.string ⟨(Lib.replaceAll s.data.toList old.data.toList new.data.toList).toArray⟩)∧Below w.heap.size w w':=Any.strings_ReplaceAll Tryz.lays155 Tryz.Builder_Extra_155 s old new m w hs hm h1 hlen
def Tryz.laysM155_ren:Go.Shelf.Ren:=⟨fun | 155=>92 | 154=>132 | 138=>139 | 165=>81 | 143=>125 | 166=>82 | 197=>148 | 169=>83 | 195=>153 | 218=>154 | 240=>129 | 241=>130 | 219=>143 | 260=>164 | 276=>145 | 277=>146 | 217=>131 | 225=>157 | 224=>158 | 267=>159 | 266=>147 | 314=>170 | n=>n,fun | 9=>9 | 3=>3 | 4=>4 | 72=>133 | 0=>0 | 76=>136 | 105=>182 | 21=>21 | 5=>5 | 70=>131 | 20=>20 | 37=>48 | 75=>135 | 127=>167 | 164=>179 | 46=>190 | 119=>206 | 139=>209 | 138=>208 | 146=>200 | 51=>199 | 80=>106 | n=>n,fun | 1=>2 | 3=>4 | 4=>5 | n=>n⟩
theorem Tryz.laysM155:Go.Proofs.LaysM.n155 Tryz.prog Tryz.laysM155_ren:={
 mixed:=by kernel_rfl
 f138:=Tryz.func139.trans (congrArg some (by kernel_rfl))
 f143:=Tryz.func125.trans (congrArg some (by kernel_rfl))
 f154:=Tryz.func132.trans (congrArg some (by kernel_rfl))
 f155:=Tryz.func92.trans (congrArg some (by kernel_rfl))
 f165:=Tryz.func81.trans (congrArg some (by kernel_rfl))
 f166:=Tryz.func82.trans (congrArg some (by kernel_rfl))
 f169:=Tryz.func83.trans (congrArg some (by kernel_rfl))
 f195:=Tryz.func153.trans (congrArg some (by kernel_rfl))
 f197:=Tryz.func148.trans (congrArg some (by kernel_rfl))
 f217:=Tryz.func131.trans (congrArg some (by kernel_rfl))
 f218:=Tryz.func154.trans (congrArg some (by kernel_rfl))
 f219:=Tryz.func143.trans (congrArg some (by kernel_rfl))
 f224:=Tryz.func158.trans (congrArg some (by kernel_rfl))
 f225:=Tryz.func157.trans (congrArg some (by kernel_rfl))
 f240:=Tryz.func129.trans (congrArg some (by kernel_rfl))
 f241:=Tryz.func130.trans (congrArg some (by kernel_rfl))
 f260:=Tryz.func164.trans (congrArg some (by kernel_rfl))
 f266:=Tryz.func147.trans (congrArg some (by kernel_rfl))
 f267:=Tryz.func159.trans (congrArg some (by kernel_rfl))
 f276:=Tryz.func145.trans (congrArg some (by kernel_rfl))
 f277:=Tryz.func146.trans (congrArg some (by kernel_rfl))
 f314:=Tryz.func170.trans (congrArg some (by kernel_rfl))
 t0:=Tryz.underlying0
 a0:=Tryz.isAgg0
 z0:=Tryz.sizeOf0
 v0:=Tryz.zeroValue0
 t3:=Tryz.underlying3
 a3:=Tryz.isAgg3
 z3:=Tryz.sizeOf3
 v3:=Tryz.zeroValue3
 t4:=Tryz.underlying4
 a4:=Tryz.isAgg4
 z4:=Tryz.sizeOf4
 v4:=Tryz.zeroValue4
 t5:=Tryz.underlying5
 a5:=Tryz.isAgg5
 z5:=Tryz.sizeOf5
 v5:=Tryz.zeroValue5
 t9:=Tryz.underlying9
 a9:=Tryz.isAgg9
 z9:=Tryz.sizeOf9
 v9:=Tryz.zeroValue9
 t20:=Tryz.underlying20
 a20:=Tryz.isAgg20
 z20:=Tryz.sizeOf20
 v20:=Tryz.zeroValue20
 t21:=Tryz.underlying21
 a21:=Tryz.isAgg21
 z21:=Tryz.sizeOf21
 v21:=Tryz.zeroValue21
 t37:=Tryz.underlying48
 a37:=Tryz.isAgg48
 z37:=Tryz.sizeOf48
 v37:=Tryz.zeroValue48
 t46:=Tryz.underlying190
 a46:=Tryz.isAgg190
 z46:=Tryz.sizeOf190
 v46:=Tryz.zeroValue190
 t51:=Tryz.underlying199
 a51:=Tryz.isAgg199
 z51:=Tryz.sizeOf199
 v51:=Tryz.zeroValue199
 t70:=Tryz.underlying131
 a70:=Tryz.isAgg131
 z70:=Tryz.sizeOf131
 v70:=Tryz.zeroValue131
 t72:=Tryz.underlying133
 a72:=Tryz.isAgg133
 z72:=Tryz.sizeOf133
 v72:=Tryz.zeroValue133
 t75:=Tryz.underlying135
 a75:=Tryz.isAgg135
 z75:=Tryz.sizeOf135
 v75:=Tryz.zeroValue135
 t76:=Tryz.underlying136
 a76:=Tryz.isAgg136
 z76:=Tryz.sizeOf136
 v76:=Tryz.zeroValue136
 t105:=Tryz.underlying182
 a105:=Tryz.isAgg182
 z105:=Tryz.sizeOf182
 v105:=Tryz.zeroValue182
 t119:=Tryz.underlying206
 a119:=Tryz.isAgg206
 z119:=Tryz.sizeOf206
 t127:=Tryz.underlying167
 a127:=Tryz.isAgg167
 z127:=Tryz.sizeOf167
 v127:=Tryz.zeroValue167
 t138:=Tryz.underlying208
 a138:=Tryz.isAgg208
 z138:=Tryz.sizeOf208
 v138:=Tryz.zeroValue208
 t139:=Tryz.underlying209
 a139:=Tryz.isAgg209
 z139:=Tryz.sizeOf209
 v139:=Tryz.zeroValue209
 t146:=Tryz.underlying200
 a146:=Tryz.isAgg200
 z146:=Tryz.sizeOf200
 v146:=Tryz.zeroValue200
 t164:=Tryz.underlying179
 a164:=Tryz.isAgg179
 z164:=Tryz.sizeOf179
 v164:=Tryz.zeroValue179
 g1:=by kernel_rfl
 g3:=by kernel_rfl
 g4:=by kernel_rfl
 t80:=Tryz.underlying106
 a80:=Tryz.isAgg106
 z80:=Tryz.sizeOf106
 v80:=Tryz.zeroValue106
 i0:=by kernel_rfl
 i3:=by kernel_rfl
 i4:=by kernel_rfl
 i5:=by kernel_rfl
 i9:=by kernel_rfl
 i20:=by kernel_rfl
 i21:=by kernel_rfl
 i37:=by kernel_rfl
 i46:=by kernel_rfl
 i51:=by kernel_rfl
 i70:=by kernel_rfl
 i72:=by kernel_rfl
 i75:=by kernel_rfl
 i76:=by kernel_rfl
 i80:=by kernel_rfl
 i105:=by kernel_rfl
 i127:=by kernel_rfl
 i138:=by kernel_rfl
 i139:=by kernel_rfl
 i146:=by kernel_rfl
 i164:=by kernel_rfl
 m1:=by kernel_rfl
 s1_3:=fun w h=>Go.Proofs.cell_of_shapedOpen_int (zero:= #[.int .i64 0]) (t:=3) h (of_decide_eq_true (by kernel_rfl)) (by kernel_rfl) rfl (by kernel_rfl) (by kernel_rfl) Tryz.underlying3
 m3:=by kernel_rfl
 m4:=by kernel_rfl}
end Go.Proofs
