/- Patterns as trees: how many nodes, how deep, all nodes ahead -/
import Derived.Test.YtlmnjbipfacniaaGreatDoorAls
import Derived.WalkKit
import Derived.Below
import Derived.WalkSpells
import Derived.Test.YtlmnjbipfacniaaGreatDoorRows
import Derived.WalkLawsBesides
import Derived.WalkSmall
import Derived.Deep.WholeRow
import Derived.Deep.QuietTactic
import Derived.BigQuiet
set_option maxHeartbeats 400000
namespace Go.Proofs.YtlmnjbipfacniaaGreatDoor
open Go.Proofs.Tryz
open Go.RowKit
structure PT where
 node::
 k:Int
 t:ByteArray
 n:Int
 nm:ByteArray
 xa:Option Addr
 b:Nat
 o:Nat
 len:Nat
 cap:Nat
 kids:Fin len→PT
def PT.nul:PT:=⟨0,ByteArray.empty,0,ByteArray.empty,none,0,0,0,0,fun i=>i.elim0⟩
def PT.kid (T:PT) (i:Nat):PT:=if h:i < T.len then T.kids ⟨i,h⟩ else PT.nul
theorem PT.kid_at {T:PT} {i:Nat} (h:i < T.len):T.kid i=T.kids ⟨i,h⟩:=dif_pos h
theorem PT.ind {P:PT→Prop} (h:∀T:PT,(∀i,i < T.len→P (T.kid i))→P T):∀T,P T
 | .node k t n nm xa b o len cap kids=>h _ fun i hi=>by
  rw[PT.kid_at (T:=.node k t n nm xa b o len cap kids) hi];exact PT.ind h (kids ⟨i,hi⟩)
def PT.kv (T:PT):Value:=.slice T.xa T.len T.cap
def kf {α:Type} (n:Nat) (d:α) (f:Fin n→α) (i:Nat):α:=if h:i < n then f ⟨i,h⟩ else d
theorem ta {α:Type} {n:Nat} {d:α} {f:Fin n→α} {i:Nat} (h:i < n):kf n d f i=f ⟨i,h⟩:=dif_pos h
def PT.In (w:World):PT→Prop
 | .node k t n nm xa b o len cap kids=>(-9223372036854775808≤k∧k≤9223372036854775807)∧t.size≤maxLen∧(-9223372036854775808≤n∧n≤9223372036854775807)∧nm.size≤maxLen∧
   len≤maxLen∧len≤cap∧(0 < len→xa=some ⟨b,o,none⟩)∧
   ∀i:Fin len,(w.cell? ⟨b,o+i.val * 5,none⟩=some (.int .i64 (kids i).k)∧w.cell? ⟨b,o+i.val * 5+1,none⟩=some (.string (kids i).t)∧w.cell? ⟨b,o+i.val * 5+2,none⟩=some (.int .i64 (kids i).n)∧w.cell? ⟨b,o+i.val * 5+3,none⟩=some (.string (kids i).nm)∧w.cell? ⟨b,o+i.val * 5+4,none⟩=some (kids i).kv)∧PT.In w (kids i)
theorem PT.In.kids {w:World} {T:PT} (h:T.In w) {i:Nat} (hi:i < T.len):(T.kid i).In w:=by
 rw[PT.kid_at hi]
 cases T;exact(h.2.2.2.2.2.2.2 ⟨i,hi⟩).2
theorem PT.In.cells {w:World} {T:PT} (h:T.In w) {i:Nat} (hi:i < T.len):
  w.cell? ⟨T.b,T.o+i * 5,none⟩=some (.int .i64 (T.kid i).k)∧w.cell? ⟨T.b,T.o+i * 5+1,none⟩=some (.string (T.kid i).t)∧w.cell? ⟨T.b,T.o+i * 5+2,none⟩=some (.int .i64 (T.kid i).n)∧w.cell? ⟨T.b,T.o+i * 5+3,none⟩=some (.string (T.kid i).nm)∧w.cell? ⟨T.b,T.o+i * 5+4,none⟩=some (T.kid i).kv:=by
 rw[PT.kid_at hi]
 cases T;exact(h.2.2.2.2.2.2.2 ⟨i,hi⟩).1
theorem PT.In.addr {w:World} {T:PT} (h:T.In w) (hi:0 < T.len):T.xa=some ⟨T.b,T.o,none⟩:=by
 cases T;exact h.2.2.2.2.2.2.1 hi
theorem PT.In.max {w:World} {T:PT} (h:T.In w):T.len≤maxLen:=by cases T;exact h.2.2.2.2.1
theorem PT.In.name {w:World} {T:PT} (h:T.In w):T.nm.size≤maxLen:=by cases T;exact h.2.2.2.1
theorem PT.In.num {w:World} {T:PT} (h:T.In w): -9223372036854775808≤T.n∧T.n≤9223372036854775807:=by cases T;exact h.2.2.1
theorem PT.In.later {w w':World} (hb:Below w.heap.size w w'):∀{T:PT},T.In w→T.In w'
 | .node k t n nm xa b o len cap kids,h=>by
  have ih:=fun i=>PT.In.later hb (T:=kids i)
  refine⟨h.1,h.2.1,h.2.2.1,h.2.2.2.1,h.2.2.2.2.1,h.2.2.2.2.2.1,h.2.2.2.2.2.2.1,fun i=> ?_⟩
  obtain⟨⟨c0,c1,c2,c3,c4⟩,hk⟩:=h.2.2.2.2.2.2.2 i;exact⟨⟨av hb c0,av hb c1,av hb c2,av hb c3,av hb c4⟩,ih i hk⟩
def fy (f:Nat→Nat):Nat→Nat
 | 0=>0
 | n+1=>fy f n+f n
def iZ (f:Nat→Nat):Nat→Nat
 | 0=>0
 | n+1=>max (iZ f n) (f n)
def gH (f:Nat→Int):Nat→Int
 | 0=>0
 | n+1=>if gH f n=0 then f n else gH f n
theorem AP {f g:Nat→Nat}:∀n,(∀i,i < n→f i=g i)→fy f n=fy g n
 | 0,_=>rfl
 | n+1,h=>by rw[fy,fy,AP n fun i hi=>h i (by omega),h n (by omega)]
theorem CR {f g:Nat→Nat}:∀n,(∀i,i < n→f i=g i)→iZ f n=iZ g n
 | 0,_=>rfl
 | n+1,h=>by rw[iZ,iZ,CR n fun i hi=>h i (by omega),h n (by omega)]
theorem AI {f g:Nat→Int}:∀n,(∀i,i < n→f i=g i)→gH f n=gH g n
 | 0,_=>rfl
 | n+1,h=>by rw[gH,gH,AI n fun i hi=>h i (by omega),h n (by omega)]
def PT.cnt:PT→Nat
 | .node _ _ _ _ _ _ _ len _ kids=>1+fy (kf len 1 fun i=>PT.cnt (kids i)) len
def PT.dep:PT→Nat
 | .node _ _ _ _ _ _ _ len _ kids=>1+iZ (kf len 1 fun i=>PT.dep (kids i)) len
theorem PT.cnt_eq (T:PT):T.cnt=1+fy (fun i=>(T.kid i).cnt) T.len:=by
 obtain⟨k,t,n,nm,xa,b,o,len,cap,kids⟩:=T;exact aD (1+ ·) (AP len fun i hi=>by rw[ta hi,PT.kid_at (T:=.node k t n nm xa b o len cap kids) hi])
theorem PT.dep_eq (T:PT):T.dep=1+iZ (fun i=>(T.kid i).dep) T.len:=by
 obtain⟨k,t,n,nm,xa,b,o,len,cap,kids⟩:=T;exact aD (1+ ·) (CR len fun i hi=>by rw[ta hi,PT.kid_at (T:=.node k t n nm xa b o len cap kids) hi])
theorem PT.cnt_pos (T:PT):0 < T.cnt:=by rw[T.cnt_eq];omega
theorem PT.dep_pos (T:PT):0 < T.dep:=by rw[T.dep_eq];omega
theorem xQ (f:Nat→Nat) {i n:Nat} (h:i≤n):fy f i≤fy f n:=by
 induction n with
 | zero=>rw[Nat.le_zero.1 h];exact aw _
 | succ n ih=>
  rcases cG i (n+1) with h1 | h1
  ·have:=ih (by omega)
   simp only[fy];omega
  ·rw[show i=n+1 by omega];exact aw _
theorem D3 (f:Nat→Nat) {i n:Nat} (h:i≤n):iZ f i≤iZ f n:=by
 induction n with
 | zero=>rw[Nat.le_zero.1 h];exact aw _
 | succ n ih=>
  rcases cG i (n+1) with h1 | h1
  ·have:=ih (by omega)
   simp only[iZ];omega
  ·rw[show i=n+1 by omega];exact aw _
theorem Lk (f:Nat→Nat) (hf:∀i,0 < f i) (n:Nat):n≤fy f n:=by
 induction n with
 | zero=>exact cU _
 | succ n ih=>have:=hf n;simp only[fy];omega
def yb (c:UInt8):Bool:=decide (65≤c.toNat) && decide (c.toNat≤90)
def Ae (c:UInt8):Bool:=decide (48≤c.toNat) && decide (c.toNat≤57)
def Ab:List UInt8→Bool
 | []=>false
 | c::r=>yb c && r.all fun x=>yb x || Ae x
def ca (s:ByteArray):Bool:=decide (s.size≤16) && Ab s.data.toList
def aO (k:Int):Int:=if k=1∨(3≤k∧k≤7) then 1 else if k=2∨(8≤k∧k≤11) then 2 else if 21≤k∧k≤24 then 3 else 0
def cK (k:Int):Int:=if k=18∨k=19 then 2 else if 20≤k∧k≤22 then 1 else 0
def cM (k:Int):Int:=if k=18∨k=19 then 4096 else if 20≤k∧k≤22 then 1 else 0
def bM (T:PT):Int:=
 if T.k < 1∨24 < T.k then 1
 else if aO T.k=1∧65536 < T.t.size then 4
 else if aO T.k=1∧T.k≠1∧T.t.size=0 then 8
 else if aO T.k=2∧(T.n < 0∨65536 < T.n) then 3
 else if aO T.k=3∧ca T.nm=false then 7
 else if (T.len:Int) < cK T.k∨cM T.k < T.len then 5
 else 0
def PT.bad:PT→Int
 | .node k t n nm xa b o len cap kids=>if bM (.node k t n nm xa b o len cap kids)=0 then gH (kf len 0 fun i=>PT.bad (kids i)) len else bM (.node k t n nm xa b o len cap kids)
theorem PT.bad_eq (T:PT):T.bad=if bM T=0 then gH (fun i=>(T.kid i).bad) T.len else bM T:=by
 obtain⟨k,t,n,nm,xa,b,o,len,cap,kids⟩:=T;have h:=AI (f:=kf len 0 fun i=>PT.bad (kids i)) (g:=fun i=>((PT.node k t n nm xa b o len cap kids).kid i).bad) len fun i hi=>by rw[ta hi,PT.kid_at (T:=.node k t n nm xa b o len cap kids) hi]
 show (if bM _=0 then gH (kf len 0 fun i=>PT.bad (kids i)) len else bM _)=_
 rw[h]
def PT.fits (T:PT):Bool:=decide (T.cnt≤4096) && decide (T.dep≤200)
def PT.wrong (T:PT):Int:=if T.fits then T.bad else 4
open Go.RowKit
theorem ab {p:Prop} (h:p):Hid p:=h
theorem aa {p:Prop} (h:Hid p):p:=h
theorem bn {α:Type} [BEq α] [LawfulBEq α] {a b:α} (h:¬a=b:=by omega):(a==b)=false:=nc.2 h
theorem bt {α:Type} [BEq α] [LawfulBEq α] {a b:α} (h:a=b:=by omega):(a==b)=true:=se.2 h
theorem cr {w:World} {g j:Nat} {cs:Array Value} {t:TypeId} {fr:Nat × Nat} {v:Option Value} (hg:w.heap[g]? =some (.cells cs t fr)) (e:cs[j]? =v:=by rfl):w.cell? ⟨g,j,none⟩=v:=(eB _ _ _ _ _ _ hg).trans e
theorem ba {w:World} (o:Obj):Below w.heap.size w (w.alloc o):=(aV _ _).alloc (aw _) o
theorem aq {w a b:World} (h:Below w.heap.size w a) (k:Below a.heap.size a b):Below w.heap.size w b:=h.trans (k.mono h.size)
theorem ax {w:World} {o:Obj} {n:Nat} (h:n=w.heap.size):(w.alloc o).heap[n]? =some o:=by subst h;exact heap_alloc_new w o
theorem ci {w:World} {o x:Obj} {n:Nat} (h:n < w.heap.size) (k:w.heap[n]? =some x):(w.alloc o).heap[n]? =some x:=(Below.heap_alloc _ _ _ h).trans k
theorem qI {a b:Bool} (h:a=b):Ending.returned (.bool a)=.returned (.bool b):=by rw[h]
theorem ed {B:Nat} {a w:World} (h:Below B a w) (g:Nat) (hg:B≤g) (cs:Array Value):Below B a (w.setRow g cs):=
 ⟨h.os,h.tape,h.output,by simpa using h.size,fun k hk=>(eZ w g k cs (by omega)).trans (h.block k hk)⟩
theorem JC {W W':World} {B e size n:Nat} {v:Value} {xs:List Value} (h:W.ownsRow B e size v n xs) (hb:Below W.heap.size W W'):W'.ownsRow B e size v n xs:=
 h.kept (row:=none) ⟨hb.os,hb.tape,hb.output,hb.size,fun k hk _=>hb.block k hk⟩ (Classical.em _)
theorem an {W W':World} {n:Nat} {x:Obj} (h:W.heap[n]? =some x) (hb:Below W.heap.size W W'):W'.heap[n]? =some x:=
 (hb.block n (bC.1 h).1).trans h
def dj (b:Nat):Bool:=decide (65≤b∧b≤90)
def cR (b:Nat):Bool:=decide (48≤b∧b≤57)
theorem zf (c:UInt8):yb c=dj c.toNat:=by unfold yb dj;simp
theorem A5 (c:UInt8):Ae c=cR c.toNat:=by unfold Ae cR;simp
theorem sP (b:Nat) (hb:b < 256) (w:World):
  Calls prog 61 #[.int .u8 (b:Int)] w fun e w'=>e=.returned (.bool (dj b))∧w'=w:=by
 have hc:(65≤b∧b≤90)∨b < 65∨(65≤b∧90 < b):=by omega
 rcases hc with ⟨h1,h2⟩ | h | ⟨h1,h2⟩
 ·rw[show dj b=true from fk (by omega)]
  go_enter func61,ntmps61;go_wp2;go_ret;exact⟨qI (by simp;omega),rfl⟩
 ·rw[show dj b=false from db (by omega)]
  go_enter func61,ntmps61;go_wp2;go_ret;exact⟨rfl,rfl⟩
 ·rw[show dj b=false from db (by omega)]
  go_enter func61,ntmps61;go_wp2;go_ret;exact⟨qI (by simp;omega),rfl⟩
theorem xJ (b:Nat) (hb:b < 256) (w:World):
  Calls prog 62 #[.int .u8 (b:Int)] w fun e w'=>e=.returned (.bool (cR b))∧w'=w:=by
 have hc:(48≤b∧b≤57)∨b < 48∨(48≤b∧57 < b):=by omega
 rcases hc with ⟨h1,h2⟩ | h | ⟨h1,h2⟩
 ·rw[show cR b=true from fk (by omega)]
  go_enter func62,ntmps62;go_wp2;go_ret;exact⟨qI (by simp;omega),rfl⟩
 ·rw[show cR b=false from db (by omega)]
  go_enter func62,ntmps62;go_wp2;go_ret;exact⟨rfl,rfl⟩
 ·rw[show cR b=false from db (by omega)]
  go_enter func62,ntmps62;go_wp2;go_ret;exact⟨qI (by simp;omega),rfl⟩
def aj (s:ByteArray) (i:Nat):Nat:=(s.data.toList.getD i 0).toNat
theorem mw (s:ByteArray) (i:Nat) (h:i < s.size):(s[i]'h).toNat=aj s i:=by
 unfold aj;have:i < s.data.toList.length:=by simpa using h
 rw[List.getD,gT this];rfl
theorem jY (s:ByteArray) (i:Nat):aj s i < 256:=UInt8.toNat_lt _
def oO (s:ByteArray):Nat→Bool
 | 0=>true
 | i+1=>oO s i && (dj (aj s i) || cR (aj s i))
theorem CW (l:List UInt8):∀i,i≤l.length→oO ⟨l.toArray⟩ i=(l.take i).all fun x=>yb x || Ae x
 | 0,_=>rfl
 | i+1,h=>by
  have hi:i < l.length:=by omega
  rw[oO,CW l i (by omega),List.take_succ_eq_append_getElem hi,List.all_append]
  simp[zf,A5,aj,List.getD,hi]
theorem Lg (s:ByteArray):ca s=(decide (1≤s.size) && decide (s.size≤16) && dj (aj s 0) && oO s s.size):=by
 obtain⟨⟨l⟩⟩:=s;have hs:(⟨⟨l⟩⟩:ByteArray).size=l.length:=rfl;have:=CW l l.length (aw _);rw[hs];unfold ca;rw[hs,this,yH]
 cases l with
 | nil=>simp[Ab]
 | cons c r=>
  simp[Ab,zf,A5,Bool.and_assoc,aj]
  cases dj c.toNat <;> simp
end Go.Proofs.YtlmnjbipfacniaaGreatDoor
