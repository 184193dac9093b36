/- The document's Bare of a statement: what lies where. The doc -/
import Derived.Test.YtlmnjbipfacniaaGreatDoorBxBM
import Derived.Test.YtlmnjbipfacniaaGreatDoorSyU0M
import Derived.Test.YtlmnjbipfacniaaGreatDoorSyQM
import Derived.Test.YtlmnjbipfacniaaGreatDoorLwPlM
import Derived.Test.YtlmnjbipfacniaaGreatDoorPatSizeP
import Derived.Test.YtlmnjbipfacniaaGreatDoorRtEM
set_option maxRecDepth 100000
set_option maxHeartbeats 400000
namespace Go.Proofs.YtlmnjbipfacniaaGreatDoor
open Go.Proofs.Tryz
open Go.RowKit
structure BS (w W:World) (S U:SV):Prop where
 box:W.heap[w.heap.size]? =some (.cells S.cells 30 (0,0))
 res:W.heap[w.heap.size+1]? =some (.cells bh.cells 30 (0,0))
 out:W.heap[w.heap.size+1+1]? =some (.cells U.cells 30 (0,0))
 bel:Below w.heap.size w W
 sin:S.In w
 uin:∀X,Below w.heap.size w X→(∀i,w.heap.size+1+1+1≤i→i < W.heap.size→X.heap[i]? =W.heap[i]?)→U.In X
section
variable {w W W':World} {S U:SV}
theorem BS.lt (h:BS w W S U):w.heap.size+1+1 < W.heap.size:=(bC.1 h.out).1
theorem BS.below (h:BS w W S U) (hb:Below W.heap.size W W'):BS w W' S U:=
 ⟨am h.box hb,am h.res hb,am h.out hb,ap h.bel hb,h.sin,fun X hX hi=>h.uin X hX fun i h1 h2=>(hi i h1 (i6 h2 hb.size)).trans (hb.block i h2)⟩
theorem DO (w:World):(dj []).In w:=⟨ax _,by show 0≤maxLen;exact cU _,fun h=>absurd h (by decide),fun i t ht=>by simp[dj] at ht⟩
def SV.u0 (S:SV):SV:=⟨S.lab,S.k,PT.nul,PT.nul,PT.nul,ByteArray.empty,ByteArray.empty,dj [],dj [],S.al,S.ye,S.no⟩
theorem u0_in {S:SV} {w:World} (h:S.In w) (X:World):S.u0.In X:=
 ⟨⟨h.txt.1,by show 0≤maxLen;exact cU _,by show 0≤maxLen;exact cU _,h.txt.2.2.2.1,h.txt.2.2.2.2.1,h.txt.2.2.2.2.2⟩,xg X,xg X,xg X,DO X,DO X⟩
theorem BS.cell (h:BS w W S U) {i:Nat} {x:Value} (hx:S.cells[i]? =some x):W.cell? ⟨w.heap.size,i,none⟩=some x:=by
 rw[eX _ _ _ _ _ _ h.box];exact hx
theorem BS.put5 (h:BS w W S U) {k:Nat} {T:PT} {U':SV} (hc:U'.cells=(((((U.cells.setIfInBounds k (.int .i64 T.k)).setIfInBounds (k+1) (.string T.t)).setIfInBounds (k+2) (.int .i64 T.n)).setIfInBounds (k+3) (.string T.nm)).setIfInBounds (k+4) (.slice T.xa T.len T.cap)))
  (hu:∀X,U.In X→T.In X→U'.In X) (hT:bd (w.heap.size+1+1+1) W T):BS w (set5 W (w.heap.size+1+1) k T) S U':=by
 refine⟨(lT _ _ _ _ _ (by omega)).trans h.box,(lT _ _ _ _ _ (by omega)).trans h.res,by rw[hc];exact DG _ _ _ _ h.out, ?_,h.sin,fun X hX hi=> ?_⟩
 ·unfold Go.Proofs.YtlmnjbipfacniaaGreatDoor.set5
  exact ly (ly (ly (ly (ly h.bel (by omega) _ _) (by omega) _ _) (by omega) _ _) (by omega) _ _) (by omega) _ _
 ·have hi':∀i,w.heap.size+1+1+1≤i→i < W.heap.size→X.heap[i]? =W.heap[i]? :=fun i h1 h2=>(hi i h1 (by rw[mS];exact h2)).trans (lT _ _ _ _ _ (by omega))
  exact hu X (h.uin X hX hi') (hT X hi')
theorem BS.va (h:BS w W S U) {T:PT} (hT:bd (w.heap.size+1+1+1) W T):BS w (set5 W (w.heap.size+1+1) 7 T) S {U with va:=T}:=
 h.put5 rfl (fun _ a b=>⟨a.txt,a.tg,b,a.pa,a.ps,a.ls⟩) hT
theorem BS.tg (h:BS w W S U) {T:PT} (hT:bd (w.heap.size+1+1+1) W T):BS w (set5 W (w.heap.size+1+1) 2 T) S {U with tg:=T}:=
 h.put5 rfl (fun _ a b=>⟨a.txt,b,a.va,a.pa,a.ps,a.ls⟩) hT
theorem BS.pa (h:BS w W S U) {T:PT} (hT:bd (w.heap.size+1+1+1) W T):BS w (set5 W (w.heap.size+1+1) 12 T) S {U with pa:=T}:=
 h.put5 rfl (fun _ a b=>⟨a.txt,a.tg,a.va,b,a.ps,a.ls⟩) hT
theorem BS.set1 (h:BS w W S U) {k:Nat} {x:Value} {U':SV} (hc:U'.cells=U.cells.setIfInBounds k x) (hu:∀X,Below w.heap.size w X→U.In X→U'.In X):BS w (W.setCell ⟨w.heap.size+1+1,k,none⟩ x) S U':=by
 have ho:∀i,i≠w.heap.size+1+1→(W.setCell ⟨w.heap.size+1+1,k,none⟩ x).heap[i]? =W.heap[i]? :=fun i hi=>dm W ⟨w.heap.size+1+1,k,none⟩ i x hi
 refine⟨(ho _ (by omega)).trans h.box,(ho _ (by omega)).trans h.res,by rw[hc];exact fK W (w.heap.size+1+1) k _ _ x h.out,ly h.bel (by omega) _ _,h.sin,fun X hX hi=>hu X hX (h.uin X hX fun i h1 h2=>(hi i h1 (by rw[nV];exact h2)).trans (ho i (by omega)))⟩
theorem BS.nm (h:BS w W S U):BS w (W.setCell ⟨w.heap.size+1+1,17,none⟩ (.string S.nm)) S {U with nm:=S.nm}:=
 h.set1 rfl fun _ _ a=>⟨⟨a.txt.1,h.sin.txt.2.1,a.txt.2.2⟩,a.tg,a.va,a.pa,a.ps,a.ls⟩
theorem BS.en (h:BS w W S U):BS w (W.setCell ⟨w.heap.size+1+1,18,none⟩ (.string S.en)) S {U with en:=S.en}:=
 h.set1 rfl fun _ _ a=>⟨⟨a.txt.1,a.txt.2.1,h.sin.txt.2.2.1,a.txt.2.2.2⟩,a.tg,a.va,a.pa,a.ps,a.ls⟩
theorem BS.ps (h:BS w W S U):BS w (W.setCell ⟨w.heap.size+1+1,19,none⟩ S.ps.v) S {U with ps:=S.ps}:=
 h.set1 rfl fun _ b a=>⟨a.txt,a.tg,a.va,a.pa,h.sin.ps.later b,a.ls⟩
theorem BS.ls (h:BS w W S U):BS w (W.setCell ⟨w.heap.size+1+1,20,none⟩ S.ls.v) S {U with ls:=S.ls}:=
 h.set1 rfl fun _ b a=>⟨a.txt,a.tg,a.va,a.pa,a.ps,h.sin.ls.later b⟩
def rB (w:World) (S:SV) (e:Ending) (w':World):Prop:=(∃U:SV,e=.returned U.v∧U.can=S.bst∧U.In w')∧Below w.heap.size w w'
theorem BS.fin (h:BS w W S U) (hc:U.can=S.bst):rB w S (.returned (.agg U.cells)) (W.setRow (w.heap.size+1) U.cells):=
 ⟨⟨U,rfl,hc,h.uin _ (eL h.bel _ (by omega) _) fun i h1 h2=>dH _ _ _ _ (by omega)⟩,eL h.bel _ (by omega) _⟩
end
open Go.RowKit
theorem Kt (v0 v9 v10 v11:ByteArray) (v1:Int):prog.built 30 [(0,.string v0),(1,.int .i64 v1),(9,.string v9),(10,.string v10),(11,.string v11)]=some #[.string v0,.int .i64 v1,.int .i64 0,.string ⟨#[]⟩,.int .i64 0,.string ⟨#[]⟩,.slice none 0 0,.int .i64 0,.string ⟨#[]⟩,.int .i64 0,.string ⟨#[]⟩,.slice none 0 0,.int .i64 0,.string ⟨#[]⟩,.int .i64 0,.string ⟨#[]⟩,.slice none 0 0,.string ⟨#[]⟩,.string ⟨#[]⟩,.slice none 0 0,.slice none 0 0,.string v9,.string v10,.string v11]:=by kernel_rfl
theorem Hn {P:Program} {ops:Array Oper} {rest:List Oper} {o:Oper} {a:Act} {w:World} {Q:Exit→Act→World→Prop} (hg:o.guard=none) (t:TypeId) (i0 i1 i2 i3 i4:Nat) (x0 x1 x2 x3 x4:Operand) (v0 v1 v2 v3 v4:Value) (ho:o.op=.build t #[(i0,x0),(i1,x1),(i2,x2),(i3,x3),(i4,x4)]) (cs:Array Value)
  (h0:a.eval x0=v0) (h1:a.eval x1=v1) (h2:a.eval x2=v2) (h3:a.eval x3=v3) (h4:a.eval x4=v4)
  (hf:P.built t [(i0,v0),(i1,v1),(i2,v2),(i3,v3),(i4,v4)]=some cs) (h:wpList P ops Q rest (a.put o.dst (.agg cs)) w):wpList P ops Q (o::rest) a w:=by
 have e:((#[(i0,x0),(i1,x1),(i2,x2),(i3,x3),(i4,x4)]:Array (Nat × Operand)).map fun (i,x)=>(i,a.eval x)).toList=[(i0,v0),(i1,v1),(i2,v2),(i3,v3),(i4,v4)]:=by
  rw[←h0,←h1,←h2,←h3,←h4];simp
 refine wpList_build hg t _ ho (by rw[e,hf];rfl) ?_
 rw[e,hf];exact h
open Go.RowKit
theorem Cl (k:Int) (l:List Int) (g:Nat) (w:World) (hl:l.length≤24) (hc:∀i,i < l.length→w.cell? ⟨g,i,none⟩=some (.int .i64 (l.getD i 0))):
  Calls prog 60 #[.int .i64 k,.slice (some ⟨g,0,none⟩) l.length l.length] w fun e w'=>e=.returned (.bool (decide (k ∈ l)))∧w'=w:=by
 have HC:=ab hc;clear hc;generalize hn:l.length=n at *;have HN:=ab hn;clear hn;go_enter func60,ntmps60;go_wp2;go_loop [9] (fun i=>∃j:Nat,j≤n∧i=.int .i64 (j:Int)∧∀q,q < j→l.getD q 0≠k) (fun i=>n - (intOf i).toNat)
 case atStart=>exact⟨0,by omega,rfl,fun q hq=>by omega⟩
 case round=>
  obtain⟨j,hj,rfl,hq⟩:=hrel;have HQ:=ab hq;clear hq;rcases cX j n with hjt | hjt
  ·have c:=aa HC j hjt
   by_cases he:l.getD j 0=k
   ·have HM:Hid (decide (k ∈ l)=true):=ab (by
     rw[decide_eq_true_eq,←he];have:j < l.length:=by rw[aa HN];exact hjt
     rw[List.getD,jH this];exact qz this)
    have hb:(l.getD j 0==k)=true:=bt he;clear he;generalize l.getD j 0=x at *;go_wp2;go_ret;exact⟨by rw[aa HM];rfl,rfl⟩
   ·have HW:Hid (∀q,q < j+1→l.getD q 0≠k):=ab (fun q hq=>by
     rcases cX q j with h | h
     ·exact aa HQ q h
     ·rw[show q=j by omega];exact he)
    have hb:(l.getD j 0==k)=false:=bn he;clear he;generalize l.getD j 0=x at *;go_wp2;exact⟨⟨j+1,by omega,by go_num,aa HW⟩,by simp[intOf];omega⟩
  ·have HM:Hid (decide (k ∈ l)=false):=ab (by
    rw[decide_eq_false_iff_not];intro hm;obtain⟨q,hq,he⟩:=List.getElem_of_mem hm;refine aa HQ q (by have:=aa HN;omega) ?_
    rw[List.getD,jH hq];exact he)
   go_wp2;go_ret;exact⟨by rw[aa HM];rfl,rfl⟩
theorem Bz {w:World} {g:Nat} {l:List Int} {t:TypeId} (h:w.heap[g]? =some (.cells (l.map fun n=>Value.int .i64 n).toArray t (0,0))):∀i,i < l.length→w.cell? ⟨g,i,none⟩=some (.int .i64 (l.getD i 0)):=fun i hi=>by
 rw[eX _ _ _ _ _ _ h];simp[List.getD,hi]
def pB (k:Int):Bool:=decide (k ∈ [3,4,5,6,7])
theorem Kh (k:Int) (g:Nat) (w:World) (h:w.heap[g]? =some (.cells #[.int .i64 3,.int .i64 4,.int .i64 5,.int .i64 6,.int .i64 7] 3 (0,0))):
  Calls prog 60 #[.int .i64 k,.slice (some ⟨g,0,none⟩) 5 5] w fun e w'=>e=.returned (.bool (pB k))∧w'=w:=Cl k [3,4,5,6,7] g w (by decide) (Bz h)
def pC (k:Int):Bool:=decide (k ∈ [2,8,9,10,11])
theorem LU (k:Int) (g:Nat) (w:World) (h:w.heap[g]? =some (.cells #[.int .i64 2,.int .i64 8,.int .i64 9,.int .i64 10,.int .i64 11] 3 (0,0))):
  Calls prog 60 #[.int .i64 k,.slice (some ⟨g,0,none⟩) 5 5] w fun e w'=>e=.returned (.bool (pC k))∧w'=w:=Cl k [2,8,9,10,11] g w (by decide) (Bz h)
def qt (k:Int):Bool:=decide (k ∈ [21,22,23,24])
theorem xT (k:Int) (g:Nat) (w:World) (h:w.heap[g]? =some (.cells #[.int .i64 21,.int .i64 22,.int .i64 23,.int .i64 24] 3 (0,0))):
  Calls prog 60 #[.int .i64 k,.slice (some ⟨g,0,none⟩) 4 4] w fun e w'=>e=.returned (.bool (qt k))∧w'=w:=Cl k [21,22,23,24] g w (by decide) (Bz h)
theorem zs (k:Int) (w:World):
  Calls prog 58 #[.int .i64 k] w fun e w'=>e=.returned (.bool (pB k))∧Below w.heap.size w w':=by
 go_enter func58,ntmps58;go_wp2_with (go_at_call 60;refine(Kh k _ _ (aw rfl)).mono ?_;rintro e w1 ⟨rfl,rfl⟩);go_ret;exact⟨rfl,ba _⟩
theorem xL (k:Int) (w:World):
  Calls prog 59 #[.int .i64 k] w fun e w'=>e=.returned (.bool (pC k))∧Below w.heap.size w w':=by
 go_enter func59,ntmps59;go_wp2_with (go_at_call 60;refine(LU k _ _ (aw rfl)).mono ?_;rintro e w1 ⟨rfl,rfl⟩);go_ret;exact⟨rfl,ba _⟩
end Go.Proofs.YtlmnjbipfacniaaGreatDoor
set_option maxRecDepth 100000
set_option maxHeartbeats 4000000
namespace Go.Proofs.YtlmnjbipfacniaaGreatDoor
open Go.Proofs.Tryz
open Go.RowKit
theorem hJ {w:World} {g:Nat} {a b c d e:Value} (h:w.heap[g]? =some (.cells #[a,b,c,d,e] 27 (0,0))):w.cell? ⟨g,0,none⟩=some a∧w.cell? ⟨g,1,none⟩=some b∧w.cell? ⟨g,2,none⟩=some c∧w.cell? ⟨g,3,none⟩=some d∧w.cell? ⟨g,4,none⟩=some e:=ej h
structure Bre (w:World) (T:PT) (t:ByteArray) (n:Int) (nm:ByteArray) (wr:World) (v:Value) (i:Nat) (L:List PT):Prop where
 inn:wr.heap[w.heap.size]? =some (.cells (ai T) 27 (0,0))
 box:wr.heap[w.heap.size+1]? =some (.cells aB 27 (0,0))
 out:wr.heap[w.heap.size+1+1]? =some (.cells #[.int .i64 T.k,.string t,.int .i64 n,.string nm,v] 27 (0,0))
 bel:Below w.heap.size w wr
 kids:KidsL (w.heap.size+1+1+1) wr v L ((T.lst.take i).map PT.bar)
theorem Bre.lt {w:World} {T:PT} {t:ByteArray} {n:Int} {nm:ByteArray} {wr:World} {v:Value} {i:Nat} {L:List PT} (h:Bre w T t n nm wr v i L):w.heap.size+1+1 < wr.heap.size:=(bC.1 h.out).1
theorem Bre.len {w:World} {T:PT} {t:ByteArray} {n:Int} {nm:ByteArray} {wr:World} {v:Value} {i:Nat} {L:List PT} (h:Bre w T t n nm wr v i L) (hi:i≤T.len):L.length=i:=by
 have:=aJ List.length h.kids.can;rw[uW,uW,List.length_take,PT.lst_len] at this;omega
theorem Bre.put {w:World} {T:PT} {t:ByteArray} {n:Int} {nm:ByteArray} {wr w3 w4 w6:World} {v v':Value} {i:Nat} {L:List PT} {U:PT} (h:Bre w T t n nm wr v i L) (hi:i < T.len) (hb3:Below wr.heap.size wr w3) (hb:Below w3.heap.size w3 w4) (hU:U.can=(T.kid i).bar) (hL:bd w3.heap.size w4 U)
  (aV:cc w6 (w.heap.size+1+1+1) 27 5 eO v' (L++[U])) (hg:(w4.alloc (.cells (ai U) 27)).grownBy w6 v.ownBlock) (hn:v'.ownBlock=v.ownBlock∨v'.ownBlock=some (w4.alloc (.cells (ai U) 27)).heap.size):
  Bre w T t n nm (w6.setCell ⟨w.heap.size+1+1,4,none⟩ v') v' (i+1) (L++[U]):=by
 have hk3:KidsL (w.heap.size+1+1+1) w3 v L ((T.lst.take i).map PT.bar):=h.kids.step hb3.size fun j _ h2=>hb3.block j h2
 have hb5:Below w4.heap.size w4 (w4.alloc (.cells (ai U) 27)):=ba _;have ie:Below w3.heap.size w3 (w4.alloc (.cells (ai U) 27)):=ap hb hb5;have fj:cc (w4.alloc (.cells (ai U) 27)) (w.heap.size+1+1+1) 27 5 eO v L:=hk3.row.later ie;have au:=h.lt;have old:∀k x,k < w.heap.size+1+1+1→wr.heap[k]? =some x→w6.heap[k]? =some x:=fun k x hk hx=>oy fj hg (am (am hx hb3) ie) hk
 have hk6:KidsL (w.heap.size+1+1+1) w6 v' (L++[U]) ((T.lst.take i).map PT.bar++[U.can]):=hk3.snoc (by have:=hb3.size;omega) (But.of_below (z:=0) hb) (by omega) hL aV hg hn
 have o6:=old _ _ (by omega) h.out
 have hlt6:w.heap.size+1+1 < w6.heap.size:=(bC.1 o6).1;refine⟨(dm w6 ⟨w.heap.size+1+1,4,none⟩ _ _ (by show w.heap.size≠w.heap.size+1+1;omega)).trans (old _ _ (by omega) h.inn),(dm w6 ⟨w.heap.size+1+1,4,none⟩ _ _ (by show w.heap.size+1≠w.heap.size+1+1;omega)).trans (old _ _ (by omega) h.box),fK w6 (w.heap.size+1+1) 4 _ _ v' o6, ?_, ?_⟩
 ·refine ly ?_ (by omega) _ _
  have cz:Below w.heap.size w (w4.alloc (.cells (ai U) 27)):=ap (ap h.bel hb3) ie;exact⟨hg.os.trans cz.os,hg.tape.trans cz.tape,hg.output.trans cz.output,bJ cz.size hg.size,fun k hk=>(hg.block k (i6 hk cz.size) fun e=>by have:=(fj.low e.symm).1;omega).trans (cz.block k hk)⟩
 ·have e:(T.lst.take (i+1)).map PT.bar=(T.lst.take i).map PT.bar++[U.can]:=by
   rw[List.take_add_one,PT.lst_at hi,qA,hU];rfl
  rw[e];exact hk6.step (by simp) fun j hj _=>dm w6 ⟨w.heap.size+1+1,4,none⟩ j _ (by show j≠w.heap.size+1+1;omega)
theorem Bre.fin {w:World} {T:PT} {t:ByteArray} {n:Int} {nm:ByteArray} {wr:World} {v:Value} {L:List PT} (h:Bre w T t n nm wr v T.len L) (aA:T.bad=0) (ht:t=if aE T.k=1 then T.t else ⟨#[]⟩) (hn:n=if aE T.k=2 then T.n else 0) (hm:nm=if aE T.k=3 then T.nm else ⟨#[]⟩):
  ∃U:PT,ai U= #[.int .i64 T.k,.string t,.int .i64 n,.string nm,v]∧U.can=T.bar∧bd (w.heap.size+1+1+1) wr U:=by
 obtain⟨he,hk⟩:=fR aA;obtain⟨k1,k24,rt,rn,rm,eI,gX⟩:=jy he;have jW:(T.lst.take T.len)=T.lst:=AD (by rw[PT.lst_len];exact ax _)
 have cE:=h.kids.can;rw[jW] at cE;have tr:t.size≤65536:=by
  rw[ht];split
  ·rename_i q;exact rt q
  ·decide
 have uZ:nm.size≤65536:=by
  rw[hm];split
  ·rename_i q;have:=ms (rm q);omega
  ·decide
 have kq:0≤n∧n≤65536:=by
  rw[hn];split
  ·rename_i q;exact rn q
  ·decide
 have hl:=h.len (ax _)
 by_cases h0:T.len=0
 ·have hL:L=[]:=kJ (by omega)
  subst hL;have hv:v=.slice none 0 0∨∃g cap,v=.slice (some ⟨g,0,none⟩) 0 cap∧0≤cap∧cap≤maxLen:=by
   rcases h.kids.row.2 with ⟨hv,_⟩ | ⟨g,cap,cur,hv,_,_,_,hm,_⟩
   ·exact .inl hv
   ·exact .inr ⟨g,cap,hv,cU _,hm⟩
  have ld:T.bar=aI T.k t n nm []:=by rw[T.bar_eq,rx h0,←ht,←hn,←hm];rfl
  rcases hv with rfl | ⟨g,cap,rfl, -, -⟩
  ·exact⟨aI T.k t n nm [],rfl,by rw[pu,ld],sK (by omega) (by omega) tr uZ⟩
  ·refine⟨⟨T.k,t,n,nm,some ⟨g,0,none⟩,g,0,0,cap,fun i=>i.elim0⟩,rfl, ?_,fun X _=>⟨by constructor <;> omega,by unfold maxLen;omega,by constructor <;> omega,by unfold maxLen;omega,by unfold maxLen;decide,cU _,fun h=>absurd h (xG _),fun i=>i.elim0⟩⟩
   rw[ld,PT.can_eq];rfl
 ·have hr:18≤T.k∧T.k≤22:=by
   by_cases q:T.k=18∨T.k=19
   ·omega
   ·by_cases r:20≤T.k∧T.k≤22
    ·omega
    ·have:cD T.k=0:=by unfold cD;rw[ac q,ac r]
     omega
  have oc:aE T.k≠1:=by intro q;unfold aE at q;rw[ac (by omega),ac (by omega)] at q;split at q <;> omega
  have mM:aE T.k≠2:=by intro q;unfold aE at q;rw[ac (by omega),ac (by omega)] at q;split at q <;> omega
  rw[ac oc] at ht;rw[ac mM] at hn;subst ht hn;have bo:L≠[]:=fun q=>h0 (by rw[←hl,q];rfl)
  obtain⟨g,cap,hv, -, -⟩:=h.kids.row.form bo;subst hv;obtain⟨K,hK⟩:∃K:Nat,T.k=(K:Int):=⟨T.k.toNat,by omega⟩
  refine⟨gd T.k nm g cap L,rfl, ?_,by rw[hK];exact DJ (by omega) uZ h.kids⟩
  rw[wP,cE,T.bar_eq,ac oc,ac mM,←hm]
def qo (T:PT):Prop:=∀w:World,T.In w→T.bad=0→Calls prog 29 #[pv T] w fun e w'=>(∃U:PT,e=.returned (pv U)∧U.can=T.bar∧bd w.heap.size w' U)∧Below w.heap.size w w'
theorem KB {T:PT} (ih:∀i,i < T.len→qo (T.kid i)) (hc:12≤T.k∧T.k≤20):qo T:=by
 intro w hT aA;have HA:=ab hT;have gV:=ab aA;have gY:=ab (fR aA).2;have IH:=ab ih;have eR:Hid (T.len≤4096):=ab (by
  obtain⟨-, -, -, -, -, -,gX⟩:=jy (fR aA).1;unfold cD at gX;split at gX
  ·omega
  ·split at gX <;> omega)
 have jg:Hid (⟨#[]⟩=if aE T.k=1 then T.t else ⟨#[]⟩):=ab (by rw[ac (by intro q;unfold aE at q;split at q <;> (try split at q) <;> (try split at q) <;> omega)])
 have dl:Hid (0=if aE T.k=2 then T.n else 0):=ab (by rw[ac (by intro q;unfold aE at q;split at q <;> (try split at q) <;> (try split at q) <;> omega)])
 have eJ:Hid (⟨#[]⟩=if aE T.k=3 then T.nm else ⟨#[]⟩):=ab (by rw[ac (by intro q;unfold aE at q;split at q <;> (try split at q) <;> (try split at q) <;> omega)])
 have e1:(T.k==1)=false:=bn;have HT:Hid (pB T.k=false):=ab (by unfold pB;exact dh (by simp;omega))
 have HN:Hid (pC T.k=false):=ab (by unfold pC;exact dh (by simp;omega))
 have HM:Hid (qt T.k=false):=ab (by unfold qt;exact dh (by simp;omega))
 obtain⟨W,hW⟩:∃W,W=((w.alloc (.cells (ai T) 27)).alloc (.cells aB 27)).alloc (.cells #[.int .i64 T.k,.string ⟨#[]⟩,.int .i64 0,.string ⟨#[]⟩,.slice none 0 0] 27):=⟨_,rfl⟩;have HB:Hid (Below w.heap.size w W):=ab (by rw[hW];exact((ba _).alloc (by simp) _).alloc (by simp;omega) _)
 have HO:Hid (W.heap[w.heap.size+1+1]? =some (.cells #[.int .i64 T.k,.string ⟨#[]⟩,.int .i64 0,.string ⟨#[]⟩,.slice none 0 0] 27 (0,0))):=ab (by rw[hW];exact aw (by simp))
 have HX:Hid (W.heap[w.heap.size+1]? =some (.cells aB 27 (0,0))):=ab (by rw[hW];exact bL (by simp) (aw (by simp)))
 have HP:Hid (W.heap[w.heap.size]? =some (.cells (ai T) 27 (0,0))):=ab (by rw[hW];exact bL (by simp;omega) (bL (by simp) (aw rfl)))
 have HW:=ab hW;have rY:¬w.heap.size=w.heap.size+1+1:=by omega
 have rX:¬w.heap.size+1+1=w.heap.size:=by omega
 clear hT aA ih hW hc;unfold pv;go_enter func29,ntmps29;go_wp2_with fail;rw[show ((w.alloc (.cells #[.int .i64 T.k,.string T.t,.int .i64 T.n,.string T.nm,.slice T.xa T.len T.cap] 27)).alloc (.cells #[.int .i64 0,.string ⟨#[]⟩,.int .i64 0,.string ⟨#[]⟩,.slice none 0 0] 27)).alloc (.cells #[.int .i64 T.k,.string ⟨#[]⟩,.int .i64 0,.string ⟨#[]⟩,.slice none 0 0] 27)=W from (aa HW).symm];clear HW;refine(zs T.k _).mono ?_;rintro e W1 ⟨rfl,hb⟩;have HP:=ab (am (aa HP) hb);have HX:=ab (am (aa HX) hb);have HO:=ab (am (aa HO) hb);have HB:=ab (ap (aa HB) hb);clear hb;rw[aa HT];generalize W1=W at *;obtain⟨c0,c1,c2,c3,c4⟩:=ej (aa HP);obtain⟨o0,o1,o2,o3,o4⟩:=hJ (aa HO);have of:=fun k=>cT W (w.heap.size+1+1) k _ _ (aa HO)
 go_wp2_with fail;clear c0 c1 c2 c3 c4 o0 o1 o2 o3 o4 of;refine(xL T.k _).mono ?_;rintro e W1 ⟨rfl,hb⟩;have HP:=ab (am (aa HP) hb);have HX:=ab (am (aa HX) hb);have HO:=ab (am (aa HO) hb);have HB:=ab (ap (aa HB) hb);clear hb;rw[aa HN];generalize W1=W at *;obtain⟨c0,c1,c2,c3,c4⟩:=ej (aa HP);obtain⟨o0,o1,o2,o3,o4⟩:=hJ (aa HO);have of:=fun k=>cT W (w.heap.size+1+1) k _ _ (aa HO)
 go_wp2_with fail;clear c0 c1 c2 c3 c4 o0 o1 o2 o3 o4 of;have hb9:Below W.heap.size W (W.alloc (.cells #[.int .i64 21,.int .i64 22,.int .i64 23,.int .i64 24] 3)):=ba _;refine(xT T.k _ _ (aw (by simp))).mono ?_
 rintro e W1 ⟨rfl,rfl⟩;have HP:=ab (am (aa HP) hb9);have HX:=ab (am (aa HX) hb9);have HO:=ab (am (aa HO) hb9);have HB:=ab (ap (aa HB) hb9);clear hb9;rw[aa HM];generalize W.alloc (.cells #[.int .i64 21,.int .i64 22,.int .i64 23,.int .i64 24] 3)=W at *;obtain⟨c0,c1,c2,c3,c4⟩:=ej (aa HP);obtain⟨o0,o1,o2,o3,o4⟩:=hJ (aa HO);have of:=fun k=>cT W (w.heap.size+1+1) k _ _ (aa HO)
 go_wp2_with fail;clear c0 c1 c2 c3 c4 o0 o1 o2 o3 o4 of;have aD:Hid (Bre w T ⟨#[]⟩ 0 ⟨#[]⟩ W (.slice none 0 0) 0 []):=ab (⟨aa HP,aa HX,aa HO,aa HB,⟨m8 _ _ _ _,rfl,fun x hx=>absurd hx ek⟩⟩)
 clear HP HX HO HB;go_loopw [36] (fun x wr=>∃(k:Nat) (v:Value) (L:List PT),k≤T.len∧x=.int .i64 (k:Int)∧Hid (Bre w T ⟨#[]⟩ 0 ⟨#[]⟩ wr v k L)) (fun x _=>T.len - (intOf x).toNat)
 case atStart=>exact⟨0,_,[],cU _,rfl,aa aD⟩
 case round=>
  obtain⟨k,v,L,hk,rfl,HK⟩:=hrel;clear aD;have js:=aa eR;rcases cX k T.len with au | jc
  ·have g1:(k:Int) < (T.len:Int):=by omega
   have lm:=kid_at (aa HA) au;have bA:=(aa HA).cells au;unfold PT.kv at bA;have HC:=ab (fun W (hb:Below w.heap.size w W)=>aa IH k au W (PT.In.later hb ((aa HA).kids au)) (aa gY k au))
   have cd:=(fun (i:Nat) (x:Value) (h:w.cell? ⟨T.b,i,none⟩=some x)=>av (aa HK).bel h)
   have a0:=cd _ _ bA.1;have a1:=cd _ _ bA.2.1;have a2:=cd _ _ bA.2.2.1;have a3:=cd _ _ bA.2.2.2.1;have a4:=cd _ _ bA.2.2.2.2;clear cd bA;obtain⟨P,hP⟩:∃P,T.kid k=P:=⟨_,rfl⟩;rw[hP] at HC a0 a1 a2 a3 a4;have kz:=ab hP;clear hP;unfold pv at HC;have hb3:Below wr.heap.size wr (wr.alloc (.cells (ai P) 27)):=ba _;have hq:(wr.alloc (.cells (ai P) 27)).heap[wr.heap.size]? =some (.cells (ai P) 27 (0,0)):=aw rfl;have kA:=ab (am (aa HK).out hb3);have aq:=ab hb3;have dZ:=ab hq;go_wp2_with fail;rw[show (#[.int .i64 P.k,.string P.t,.int .i64 P.n,.string P.nm,.slice P.xa P.len P.cap]:Array Value)=ai P from rfl];generalize (wr.alloc (.cells (ai P) 27))=w3 at *;obtain⟨q0,q1,q2,q3,q4⟩:=ej (aa dZ);obtain⟨o0,o1,o2,o3,o4⟩:=hJ (aa kA);clear hq hb3 a0 a1 a2 a3 a4 o0 o1 o2 o3;have dR:=ab (aa HK).lt;obtain⟨S0,aO⟩:∃S0:World→Prop,S0=fun w'=>w'.cell? ⟨w.heap.size+1+1,4,none⟩=some v∧w'.cell? ⟨wr.heap.size,0,none⟩=some (.int .i64 P.k)∧w'.cell? ⟨wr.heap.size,1,none⟩=some (.string P.t)∧w'.cell? ⟨wr.heap.size,2,none⟩=some (.int .i64 P.n)∧w'.cell? ⟨wr.heap.size,3,none⟩=some (.string P.nm)∧w'.cell? ⟨wr.heap.size,4,none⟩=some (.slice P.xa P.len P.cap):=⟨_,rfl⟩
   have ao:=ab aO;have hS:S0 w3.drew:=by rw[aO];exact⟨o4,q0,q1,q2,q3,q4⟩
   have aU:Hid (∀W,Below w3.heap.size w3 W→S0 W):=ab (fun W h=>by rw[aO];exact⟨av h o4,av h q0,av h q1,av h q2,av h q3,av h q4⟩)
   clear aO;refine gZ 7 S0 ?_;intro F;refine aK F 0 ao hS ?_
   (try go_frame)
   refine aK F 1 ao hS ?_
   (try go_frame)
   refine aK F 2 ao hS ?_
   (try go_frame)
   refine cg 3 (fun K3 cO=> ?_)
   go_simp;have ko:Below w.heap.size w w3.drew:=(ap (aa HK).bel (aa aq)).drew;refine(aa HC _ ko).mono ?_;rintro e w4 ⟨⟨U,rfl,hU,hL⟩,hb4⟩;have hb4':Below w3.heap.size w3 w4:=ap (aW _ _).drew hb4;refine cO _ _ (aa aU _ hb4') ?_;refine cg 4 (fun K4 bH=> ?_)
   (try unfold pv)
   go_simp;have hb5:Below w4.heap.size w4 (w4.alloc (.cells (ai U) 27)):=ba _;refine bH _ _ (aa aU _ (ap hb4' hb5)) ?_;refine cg 5 (fun K5 dP=> ?_)
   have dw:cc (w4.alloc (.cells (ai U) 27)) (w.heap.size+1+1+1) 27 5 eO v L:=((aa HK).kids.row.later (aa aq)).later (ap hb4' hb5);have sf:=(aa HK).len hk;refine ql underlying25 vT rfl (by decide) (by decide) jh nK rfl (.tmp 41) (.tmp 44) rfl dw (by rw[eu];have:=aa dR;have:=hb4'.size;have:=(aa aq).size;omega) U w4.heap.size 1 rfl rfl vS (by have:=aa eR;omega) ?_
   intro v' w6 aV bS dX;have ef:=ab ((aa HK).put au (aa aq) hb4' (by rw[hU,aa kz]) hL aV bS dX)
   have hfz:=cT w6 (w.heap.size+1+1) 4 _ _ (show w6.heap[w.heap.size+1+1]? =_ from oy dw bS (am (am (aa HK).out (aa aq)) (ap hb4' hb5)) (by omega))
   have gq:=(hJ (show w6.heap[w.heap.size+1+1]? =_ from oy dw bS (am (am (aa HK).out (aa aq)) (ap hb4' hb5)) (by omega))).2.2.2.2
   have dQ:Hid (S0 w6):=ab (by
    rw[aa ao];have dV:w6.heap[wr.heap.size]? =_:=(bS.block wr.heap.size (i6 (bC.1 (aa dZ)).1 (ap hb4' hb5).size) (fun e=>by have h1:=((aa HK).kids.row.low e.symm).2;omega)).trans (am (aa dZ) (ap hb4' hb5))
    obtain⟨z0,z1,z2,z3,z4⟩:=ej dV;exact⟨gq,z0,z1,z2,z3,z4⟩)
   obtain⟨g6,cap6,eg, -, -⟩:=aV.form (by simp)
   generalize (L++[U]).length=n6 at eg;subst eg;refine dP _ _ (aa dQ) ?_;refine cg 6 (fun K6 gx=> ?_)
   go_simp;refine gx _ _ (aa dQ) ?_;refine g5 (by kernel_rfl) rfl (by kernel_rfl) (fun K7 gu=> ?_)
   clear aV bS dX dw hb5 hb4 hb4' hL hU hS q0 q1 q2 q3 q4 o4;go_simp;refine gu _ _ ?_
   (try simp only[aH,aP,aG])
   (try go_frame)
   clear gu gx dP bH cO K7 K6 K5 K4 K3 F ao aU gq hfz;go_wp2_with fail;exact⟨⟨k+1,_,L++[U],by omega,rfl,aa ef⟩,by simp[intOf];omega⟩
  ·obtain rfl:k=T.len:=by omega
   have g1:¬(T.len:Int) < (T.len:Int):=by omega
   obtain⟨U,gt,eh,gr⟩:=(aa HK).fin (aa gV) (aa jg) (aa dl) (aa eJ);obtain⟨o0,o1,o2,o3,o4⟩:=hJ (aa HK).out;have HX:=ab (aa HK).box;have HU:=ab (And.intro gt (And.intro eh gr));have ay:=(aa HK).lt;clear gt eh gr;go_wp2_with (first
    | (refine aX rfl 27 _ _ rfl (w.heap.size+1) #[.int .i64 T.k,.string ⟨#[]⟩,.int .i64 0,.string ⟨#[]⟩,v] rfl rfl 27 aB (aa HX) dK rfl (by rw[←(aa HU).1];exact ik U) ?_)
    | fail)
   (try simp only[Exit.inBlock,Exit.then])
   refine ck (dT rfl _ _ (w.heap.size+1) 27 #[.int .i64 T.k,.string ⟨#[]⟩,.int .i64 0,.string ⟨#[]⟩,v] (0,0) _ rfl (cm _ _ _ _ _ _ (aa HX)) underlying27 rfl dK) rfl ?_;exact⟨⟨U,by have h:=(aa HU).1;unfold ai at h;rw[h],(aa HU).2.1,((aa HU).2.2.setRow (by omega) _).mono (by omega)⟩,eL (aa HK).bel _ (by omega) _⟩
open Go.RowKit
theorem Mi {T:PT} (ih:∀i,i < T.len→qo (T.kid i)) (hc:T.k=1):qo T:=by
 intro w hT aA;have HA:=ab hT;have gV:=ab aA;have gY:=ab (fR aA).2;have IH:=ab ih;have eR:Hid (T.len≤4096):=ab (by
  obtain⟨-, -, -, -, -, -,gX⟩:=jy (fR aA).1;unfold cD at gX;split at gX
  ·omega
  ·split at gX <;> omega)
 have jg:Hid (T.t=if aE T.k=1 then T.t else ⟨#[]⟩):=ab (by rw[af (by unfold aE;rw[af (by omega)])])
 have dl:Hid (0=if aE T.k=2 then T.n else 0):=ab (by rw[ac (by intro q;unfold aE at q;split at q <;> (try split at q) <;> (try split at q) <;> omega)])
 have eJ:Hid (⟨#[]⟩=if aE T.k=3 then T.nm else ⟨#[]⟩):=ab (by rw[ac (by intro q;unfold aE at q;split at q <;> (try split at q) <;> (try split at q) <;> omega)])
 have e1:(T.k==1)=true:=bt;have HT:Hid (pB T.k=false):=ab (by unfold pB;exact dh (by simp;omega))
 have HN:Hid (pC T.k=false):=ab (by unfold pC;exact dh (by simp;omega))
 have HM:Hid (qt T.k=false):=ab (by unfold qt;exact dh (by simp;omega))
 obtain⟨W,hW⟩:∃W,W=((w.alloc (.cells (ai T) 27)).alloc (.cells aB 27)).alloc (.cells #[.int .i64 T.k,.string T.t,.int .i64 0,.string ⟨#[]⟩,.slice none 0 0] 27):=⟨_,rfl⟩;have HB:Hid (Below w.heap.size w W):=ab (by rw[hW];exact((ba _).alloc (by simp) _).alloc (by simp;omega) _)
 have HO:Hid (W.heap[w.heap.size+1+1]? =some (.cells #[.int .i64 T.k,.string T.t,.int .i64 0,.string ⟨#[]⟩,.slice none 0 0] 27 (0,0))):=ab (by rw[hW];exact aw (by simp))
 have HX:Hid (W.heap[w.heap.size+1]? =some (.cells aB 27 (0,0))):=ab (by rw[hW];exact bL (by simp) (aw (by simp)))
 have HP:Hid (W.heap[w.heap.size]? =some (.cells (ai T) 27 (0,0))):=ab (by rw[hW];exact bL (by simp;omega) (bL (by simp) (aw rfl)))
 have HW:=ab hW;have rY:¬w.heap.size=w.heap.size+1+1:=by omega
 have rX:¬w.heap.size+1+1=w.heap.size:=by omega
 clear hT aA ih hW hc;unfold pv;go_enter func29,ntmps29;go_wp2_with fail;rw[show ((w.alloc (.cells #[.int .i64 T.k,.string T.t,.int .i64 T.n,.string T.nm,.slice T.xa T.len T.cap] 27)).alloc (.cells #[.int .i64 0,.string ⟨#[]⟩,.int .i64 0,.string ⟨#[]⟩,.slice none 0 0] 27)).alloc (.cells #[.int .i64 T.k,.string T.t,.int .i64 0,.string ⟨#[]⟩,.slice none 0 0] 27)=W from (aa HW).symm];clear HW;refine(xL T.k _).mono ?_;rintro e W1 ⟨rfl,hb⟩;have HP:=ab (am (aa HP) hb);have HX:=ab (am (aa HX) hb);have HO:=ab (am (aa HO) hb);have HB:=ab (ap (aa HB) hb);clear hb;rw[aa HN];generalize W1=W at *;obtain⟨c0,c1,c2,c3,c4⟩:=ej (aa HP);obtain⟨o0,o1,o2,o3,o4⟩:=hJ (aa HO);have of:=fun k=>cT W (w.heap.size+1+1) k _ _ (aa HO)
 go_wp2_with fail;clear c0 c1 c2 c3 c4 o0 o1 o2 o3 o4 of;have hb9:Below W.heap.size W (W.alloc (.cells #[.int .i64 21,.int .i64 22,.int .i64 23,.int .i64 24] 3)):=ba _;refine(xT T.k _ _ (aw (by simp))).mono ?_
 rintro e W1 ⟨rfl,rfl⟩;have HP:=ab (am (aa HP) hb9);have HX:=ab (am (aa HX) hb9);have HO:=ab (am (aa HO) hb9);have HB:=ab (ap (aa HB) hb9);clear hb9;rw[aa HM];generalize W.alloc (.cells #[.int .i64 21,.int .i64 22,.int .i64 23,.int .i64 24] 3)=W at *;obtain⟨c0,c1,c2,c3,c4⟩:=ej (aa HP);obtain⟨o0,o1,o2,o3,o4⟩:=hJ (aa HO);have of:=fun k=>cT W (w.heap.size+1+1) k _ _ (aa HO)
 go_wp2_with fail;clear c0 c1 c2 c3 c4 o0 o1 o2 o3 o4 of;have aD:Hid (Bre w T T.t 0 ⟨#[]⟩ W (.slice none 0 0) 0 []):=ab (⟨aa HP,aa HX,aa HO,aa HB,⟨m8 _ _ _ _,rfl,fun x hx=>absurd hx ek⟩⟩)
 clear HP HX HO HB;go_loopw [36] (fun x wr=>∃(k:Nat) (v:Value) (L:List PT),k≤T.len∧x=.int .i64 (k:Int)∧Hid (Bre w T T.t 0 ⟨#[]⟩ wr v k L)) (fun x _=>T.len - (intOf x).toNat)
 case atStart=>exact⟨0,_,[],cU _,rfl,aa aD⟩
 case round=>
  obtain⟨k,v,L,hk,rfl,HK⟩:=hrel;clear aD;have js:=aa eR;rcases cX k T.len with au | jc
  ·have g1:(k:Int) < (T.len:Int):=by omega
   have lm:=kid_at (aa HA) au;have bA:=(aa HA).cells au;unfold PT.kv at bA;have HC:=ab (fun W (hb:Below w.heap.size w W)=>aa IH k au W (PT.In.later hb ((aa HA).kids au)) (aa gY k au))
   have cd:=(fun (i:Nat) (x:Value) (h:w.cell? ⟨T.b,i,none⟩=some x)=>av (aa HK).bel h)
   have a0:=cd _ _ bA.1;have a1:=cd _ _ bA.2.1;have a2:=cd _ _ bA.2.2.1;have a3:=cd _ _ bA.2.2.2.1;have a4:=cd _ _ bA.2.2.2.2;clear cd bA;obtain⟨P,hP⟩:∃P,T.kid k=P:=⟨_,rfl⟩;rw[hP] at HC a0 a1 a2 a3 a4;have kz:=ab hP;clear hP;unfold pv at HC;have hb3:Below wr.heap.size wr (wr.alloc (.cells (ai P) 27)):=ba _;have hq:(wr.alloc (.cells (ai P) 27)).heap[wr.heap.size]? =some (.cells (ai P) 27 (0,0)):=aw rfl;have kA:=ab (am (aa HK).out hb3);have aq:=ab hb3;have dZ:=ab hq;go_wp2_with fail;rw[show (#[.int .i64 P.k,.string P.t,.int .i64 P.n,.string P.nm,.slice P.xa P.len P.cap]:Array Value)=ai P from rfl];generalize (wr.alloc (.cells (ai P) 27))=w3 at *;obtain⟨q0,q1,q2,q3,q4⟩:=ej (aa dZ);obtain⟨o0,o1,o2,o3,o4⟩:=hJ (aa kA);clear hq hb3 a0 a1 a2 a3 a4 o0 o1 o2 o3;have dR:=ab (aa HK).lt;obtain⟨S0,aO⟩:∃S0:World→Prop,S0=fun w'=>w'.cell? ⟨w.heap.size+1+1,4,none⟩=some v∧w'.cell? ⟨wr.heap.size,0,none⟩=some (.int .i64 P.k)∧w'.cell? ⟨wr.heap.size,1,none⟩=some (.string P.t)∧w'.cell? ⟨wr.heap.size,2,none⟩=some (.int .i64 P.n)∧w'.cell? ⟨wr.heap.size,3,none⟩=some (.string P.nm)∧w'.cell? ⟨wr.heap.size,4,none⟩=some (.slice P.xa P.len P.cap):=⟨_,rfl⟩
   have ao:=ab aO;have hS:S0 w3.drew:=by rw[aO];exact⟨o4,q0,q1,q2,q3,q4⟩
   have aU:Hid (∀W,Below w3.heap.size w3 W→S0 W):=ab (fun W h=>by rw[aO];exact⟨av h o4,av h q0,av h q1,av h q2,av h q3,av h q4⟩)
   clear aO;refine gZ 7 S0 ?_;intro F;refine aK F 0 ao hS ?_
   (try go_frame)
   refine aK F 1 ao hS ?_
   (try go_frame)
   refine aK F 2 ao hS ?_
   (try go_frame)
   refine cg 3 (fun K3 cO=> ?_)
   go_simp;have ko:Below w.heap.size w w3.drew:=(ap (aa HK).bel (aa aq)).drew;refine(aa HC _ ko).mono ?_;rintro e w4 ⟨⟨U,rfl,hU,hL⟩,hb4⟩;have hb4':Below w3.heap.size w3 w4:=ap (aW _ _).drew hb4;refine cO _ _ (aa aU _ hb4') ?_;refine cg 4 (fun K4 bH=> ?_)
   (try unfold pv)
   go_simp;have hb5:Below w4.heap.size w4 (w4.alloc (.cells (ai U) 27)):=ba _;refine bH _ _ (aa aU _ (ap hb4' hb5)) ?_;refine cg 5 (fun K5 dP=> ?_)
   have dw:cc (w4.alloc (.cells (ai U) 27)) (w.heap.size+1+1+1) 27 5 eO v L:=((aa HK).kids.row.later (aa aq)).later (ap hb4' hb5);have sf:=(aa HK).len hk;refine ql underlying25 vT rfl (by decide) (by decide) jh nK rfl (.tmp 41) (.tmp 44) rfl dw (by rw[eu];have:=aa dR;have:=hb4'.size;have:=(aa aq).size;omega) U w4.heap.size 1 rfl rfl vS (by have:=aa eR;omega) ?_
   intro v' w6 aV bS dX;have ef:=ab ((aa HK).put au (aa aq) hb4' (by rw[hU,aa kz]) hL aV bS dX)
   have hfz:=cT w6 (w.heap.size+1+1) 4 _ _ (show w6.heap[w.heap.size+1+1]? =_ from oy dw bS (am (am (aa HK).out (aa aq)) (ap hb4' hb5)) (by omega))
   have gq:=(hJ (show w6.heap[w.heap.size+1+1]? =_ from oy dw bS (am (am (aa HK).out (aa aq)) (ap hb4' hb5)) (by omega))).2.2.2.2
   have dQ:Hid (S0 w6):=ab (by
    rw[aa ao];have dV:w6.heap[wr.heap.size]? =_:=(bS.block wr.heap.size (i6 (bC.1 (aa dZ)).1 (ap hb4' hb5).size) (fun e=>by have h1:=((aa HK).kids.row.low e.symm).2;omega)).trans (am (aa dZ) (ap hb4' hb5))
    obtain⟨z0,z1,z2,z3,z4⟩:=ej dV;exact⟨gq,z0,z1,z2,z3,z4⟩)
   obtain⟨g6,cap6,eg, -, -⟩:=aV.form (by simp)
   generalize (L++[U]).length=n6 at eg;subst eg;refine dP _ _ (aa dQ) ?_;refine cg 6 (fun K6 gx=> ?_)
   go_simp;refine gx _ _ (aa dQ) ?_;refine g5 (by kernel_rfl) rfl (by kernel_rfl) (fun K7 gu=> ?_)
   clear aV bS dX dw hb5 hb4 hb4' hL hU hS q0 q1 q2 q3 q4 o4;go_simp;refine gu _ _ ?_
   (try simp only[aH,aP,aG])
   (try go_frame)
   clear gu gx dP bH cO K7 K6 K5 K4 K3 F ao aU gq hfz;go_wp2_with fail;exact⟨⟨k+1,_,L++[U],by omega,rfl,aa ef⟩,by simp[intOf];omega⟩
  ·obtain rfl:k=T.len:=by omega
   have g1:¬(T.len:Int) < (T.len:Int):=by omega
   obtain⟨U,gt,eh,gr⟩:=(aa HK).fin (aa gV) (aa jg) (aa dl) (aa eJ);obtain⟨o0,o1,o2,o3,o4⟩:=hJ (aa HK).out;have HX:=ab (aa HK).box;have HU:=ab (And.intro gt (And.intro eh gr));have ay:=(aa HK).lt;clear gt eh gr;go_wp2_with (first
    | (refine aX rfl 27 _ _ rfl (w.heap.size+1) #[.int .i64 T.k,.string T.t,.int .i64 0,.string ⟨#[]⟩,v] rfl rfl 27 aB (aa HX) dK rfl (by rw[←(aa HU).1];exact ik U) ?_)
    | fail)
   (try simp only[Exit.inBlock,Exit.then])
   refine ck (dT rfl _ _ (w.heap.size+1) 27 #[.int .i64 T.k,.string T.t,.int .i64 0,.string ⟨#[]⟩,v] (0,0) _ rfl (cm _ _ _ _ _ _ (aa HX)) underlying27 rfl dK) rfl ?_;exact⟨⟨U,by have h:=(aa HU).1;unfold ai at h;rw[h],(aa HU).2.1,((aa HU).2.2.setRow (by omega) _).mono (by omega)⟩,eL (aa HK).bel _ (by omega) _⟩
open Go.RowKit
theorem KA {T:PT} (ih:∀i,i < T.len→qo (T.kid i)) (hc:3≤T.k∧T.k≤7):qo T:=by
 intro w hT aA;have HA:=ab hT;have gV:=ab aA;have gY:=ab (fR aA).2;have IH:=ab ih;have eR:Hid (T.len≤4096):=ab (by
  obtain⟨-, -, -, -, -, -,gX⟩:=jy (fR aA).1;unfold cD at gX;split at gX
  ·omega
  ·split at gX <;> omega)
 have jg:Hid (T.t=if aE T.k=1 then T.t else ⟨#[]⟩):=ab (by rw[af (by unfold aE;rw[af (by omega)])])
 have dl:Hid (0=if aE T.k=2 then T.n else 0):=ab (by rw[ac (by intro q;unfold aE at q;split at q <;> (try split at q) <;> (try split at q) <;> omega)])
 have eJ:Hid (⟨#[]⟩=if aE T.k=3 then T.nm else ⟨#[]⟩):=ab (by rw[ac (by intro q;unfold aE at q;split at q <;> (try split at q) <;> (try split at q) <;> omega)])
 have e1:(T.k==1)=false:=bn;have HT:Hid (pB T.k=true):=ab (by unfold pB;exact eW (by simp;omega))
 have HN:Hid (pC T.k=false):=ab (by unfold pC;exact dh (by simp;omega))
 have HM:Hid (qt T.k=false):=ab (by unfold qt;exact dh (by simp;omega))
 obtain⟨W,hW⟩:∃W,W=((w.alloc (.cells (ai T) 27)).alloc (.cells aB 27)).alloc (.cells #[.int .i64 T.k,.string ⟨#[]⟩,.int .i64 0,.string ⟨#[]⟩,.slice none 0 0] 27):=⟨_,rfl⟩;have HB:Hid (Below w.heap.size w W):=ab (by rw[hW];exact((ba _).alloc (by simp) _).alloc (by simp;omega) _)
 have HO:Hid (W.heap[w.heap.size+1+1]? =some (.cells #[.int .i64 T.k,.string ⟨#[]⟩,.int .i64 0,.string ⟨#[]⟩,.slice none 0 0] 27 (0,0))):=ab (by rw[hW];exact aw (by simp))
 have HX:Hid (W.heap[w.heap.size+1]? =some (.cells aB 27 (0,0))):=ab (by rw[hW];exact bL (by simp) (aw (by simp)))
 have HP:Hid (W.heap[w.heap.size]? =some (.cells (ai T) 27 (0,0))):=ab (by rw[hW];exact bL (by simp;omega) (bL (by simp) (aw rfl)))
 have HW:=ab hW;have rY:¬w.heap.size=w.heap.size+1+1:=by omega
 have rX:¬w.heap.size+1+1=w.heap.size:=by omega
 clear hT aA ih hW hc;unfold pv;go_enter func29,ntmps29;go_wp2_with fail;rw[show ((w.alloc (.cells #[.int .i64 T.k,.string T.t,.int .i64 T.n,.string T.nm,.slice T.xa T.len T.cap] 27)).alloc (.cells #[.int .i64 0,.string ⟨#[]⟩,.int .i64 0,.string ⟨#[]⟩,.slice none 0 0] 27)).alloc (.cells #[.int .i64 T.k,.string ⟨#[]⟩,.int .i64 0,.string ⟨#[]⟩,.slice none 0 0] 27)=W from (aa HW).symm];clear HW;refine(zs T.k _).mono ?_;rintro e W1 ⟨rfl,hb⟩;have HP:=ab (am (aa HP) hb);have HX:=ab (am (aa HX) hb);have HO:=ab (am (aa HO) hb);have HB:=ab (ap (aa HB) hb);clear hb;rw[aa HT];generalize W1=W at *;obtain⟨c0,c1,c2,c3,c4⟩:=ej (aa HP);obtain⟨o0,o1,o2,o3,o4⟩:=hJ (aa HO);have of:=fun k=>cT W (w.heap.size+1+1) k _ _ (aa HO)
 go_wp2_with fail;clear c0 c1 c2 c3 c4 o0 o1 o2 o3 o4 of;have HP:Hid ((W.setCell ⟨w.heap.size+1+1,1,none⟩ (.string T.t)).heap[w.heap.size]? =some (.cells (ai T) 27 (0,0))):=ab ((dm W ⟨w.heap.size+1+1,1,none⟩ _ _ (by show w.heap.size≠w.heap.size+1+1;omega)).trans (aa HP))
 have HX:Hid ((W.setCell ⟨w.heap.size+1+1,1,none⟩ (.string T.t)).heap[w.heap.size+1]? =some (.cells aB 27 (0,0))):=ab ((dm W ⟨w.heap.size+1+1,1,none⟩ _ _ (by show w.heap.size+1≠w.heap.size+1+1;omega)).trans (aa HX))
 have HO:Hid ((W.setCell ⟨w.heap.size+1+1,1,none⟩ (.string T.t)).heap[w.heap.size+1+1]? =some (.cells #[.int .i64 T.k,.string T.t,.int .i64 0,.string ⟨#[]⟩,.slice none 0 0] 27 (0,0))):=ab (fK W (w.heap.size+1+1) 1 _ _ _ (aa HO));have HB:Hid (Below w.heap.size w (W.setCell ⟨w.heap.size+1+1,1,none⟩ (.string T.t))):=ab (ly (aa HB) (by omega) _ _)
 generalize W.setCell ⟨w.heap.size+1+1,1,none⟩ (.string T.t)=W at *;refine(xL T.k _).mono ?_;rintro e W1 ⟨rfl,hb⟩;have HP:=ab (am (aa HP) hb);have HX:=ab (am (aa HX) hb);have HO:=ab (am (aa HO) hb);have HB:=ab (ap (aa HB) hb);clear hb;rw[aa HN];generalize W1=W at *;obtain⟨c0,c1,c2,c3,c4⟩:=ej (aa HP);obtain⟨o0,o1,o2,o3,o4⟩:=hJ (aa HO);have of:=fun k=>cT W (w.heap.size+1+1) k _ _ (aa HO)
 go_wp2_with fail;clear c0 c1 c2 c3 c4 o0 o1 o2 o3 o4 of;have hb9:Below W.heap.size W (W.alloc (.cells #[.int .i64 21,.int .i64 22,.int .i64 23,.int .i64 24] 3)):=ba _;refine(xT T.k _ _ (aw (by simp))).mono ?_
 rintro e W1 ⟨rfl,rfl⟩;have HP:=ab (am (aa HP) hb9);have HX:=ab (am (aa HX) hb9);have HO:=ab (am (aa HO) hb9);have HB:=ab (ap (aa HB) hb9);clear hb9;rw[aa HM];generalize W.alloc (.cells #[.int .i64 21,.int .i64 22,.int .i64 23,.int .i64 24] 3)=W at *;obtain⟨c0,c1,c2,c3,c4⟩:=ej (aa HP);obtain⟨o0,o1,o2,o3,o4⟩:=hJ (aa HO);have of:=fun k=>cT W (w.heap.size+1+1) k _ _ (aa HO)
 go_wp2_with fail;clear c0 c1 c2 c3 c4 o0 o1 o2 o3 o4 of;have aD:Hid (Bre w T T.t 0 ⟨#[]⟩ W (.slice none 0 0) 0 []):=ab (⟨aa HP,aa HX,aa HO,aa HB,⟨m8 _ _ _ _,rfl,fun x hx=>absurd hx ek⟩⟩)
 clear HP HX HO HB;go_loopw [36] (fun x wr=>∃(k:Nat) (v:Value) (L:List PT),k≤T.len∧x=.int .i64 (k:Int)∧Hid (Bre w T T.t 0 ⟨#[]⟩ wr v k L)) (fun x _=>T.len - (intOf x).toNat)
 case atStart=>exact⟨0,_,[],cU _,rfl,aa aD⟩
 case round=>
  obtain⟨k,v,L,hk,rfl,HK⟩:=hrel;clear aD;have js:=aa eR;rcases cX k T.len with au | jc
  ·have g1:(k:Int) < (T.len:Int):=by omega
   have lm:=kid_at (aa HA) au;have bA:=(aa HA).cells au;unfold PT.kv at bA;have HC:=ab (fun W (hb:Below w.heap.size w W)=>aa IH k au W (PT.In.later hb ((aa HA).kids au)) (aa gY k au))
   have cd:=(fun (i:Nat) (x:Value) (h:w.cell? ⟨T.b,i,none⟩=some x)=>av (aa HK).bel h)
   have a0:=cd _ _ bA.1;have a1:=cd _ _ bA.2.1;have a2:=cd _ _ bA.2.2.1;have a3:=cd _ _ bA.2.2.2.1;have a4:=cd _ _ bA.2.2.2.2;clear cd bA;obtain⟨P,hP⟩:∃P,T.kid k=P:=⟨_,rfl⟩;rw[hP] at HC a0 a1 a2 a3 a4;have kz:=ab hP;clear hP;unfold pv at HC;have hb3:Below wr.heap.size wr (wr.alloc (.cells (ai P) 27)):=ba _;have hq:(wr.alloc (.cells (ai P) 27)).heap[wr.heap.size]? =some (.cells (ai P) 27 (0,0)):=aw rfl;have kA:=ab (am (aa HK).out hb3);have aq:=ab hb3;have dZ:=ab hq;go_wp2_with fail;rw[show (#[.int .i64 P.k,.string P.t,.int .i64 P.n,.string P.nm,.slice P.xa P.len P.cap]:Array Value)=ai P from rfl];generalize (wr.alloc (.cells (ai P) 27))=w3 at *;obtain⟨q0,q1,q2,q3,q4⟩:=ej (aa dZ);obtain⟨o0,o1,o2,o3,o4⟩:=hJ (aa kA);clear hq hb3 a0 a1 a2 a3 a4 o0 o1 o2 o3;have dR:=ab (aa HK).lt;obtain⟨S0,aO⟩:∃S0:World→Prop,S0=fun w'=>w'.cell? ⟨w.heap.size+1+1,4,none⟩=some v∧w'.cell? ⟨wr.heap.size,0,none⟩=some (.int .i64 P.k)∧w'.cell? ⟨wr.heap.size,1,none⟩=some (.string P.t)∧w'.cell? ⟨wr.heap.size,2,none⟩=some (.int .i64 P.n)∧w'.cell? ⟨wr.heap.size,3,none⟩=some (.string P.nm)∧w'.cell? ⟨wr.heap.size,4,none⟩=some (.slice P.xa P.len P.cap):=⟨_,rfl⟩
   have ao:=ab aO;have hS:S0 w3.drew:=by rw[aO];exact⟨o4,q0,q1,q2,q3,q4⟩
   have aU:Hid (∀W,Below w3.heap.size w3 W→S0 W):=ab (fun W h=>by rw[aO];exact⟨av h o4,av h q0,av h q1,av h q2,av h q3,av h q4⟩)
   clear aO;refine gZ 7 S0 ?_;intro F;refine aK F 0 ao hS ?_
   (try go_frame)
   refine aK F 1 ao hS ?_
   (try go_frame)
   refine aK F 2 ao hS ?_
   (try go_frame)
   refine cg 3 (fun K3 cO=> ?_)
   go_simp;have ko:Below w.heap.size w w3.drew:=(ap (aa HK).bel (aa aq)).drew;refine(aa HC _ ko).mono ?_;rintro e w4 ⟨⟨U,rfl,hU,hL⟩,hb4⟩;have hb4':Below w3.heap.size w3 w4:=ap (aW _ _).drew hb4;refine cO _ _ (aa aU _ hb4') ?_;refine cg 4 (fun K4 bH=> ?_)
   (try unfold pv)
   go_simp;have hb5:Below w4.heap.size w4 (w4.alloc (.cells (ai U) 27)):=ba _;refine bH _ _ (aa aU _ (ap hb4' hb5)) ?_;refine cg 5 (fun K5 dP=> ?_)
   have dw:cc (w4.alloc (.cells (ai U) 27)) (w.heap.size+1+1+1) 27 5 eO v L:=((aa HK).kids.row.later (aa aq)).later (ap hb4' hb5);have sf:=(aa HK).len hk;refine ql underlying25 vT rfl (by decide) (by decide) jh nK rfl (.tmp 41) (.tmp 44) rfl dw (by rw[eu];have:=aa dR;have:=hb4'.size;have:=(aa aq).size;omega) U w4.heap.size 1 rfl rfl vS (by have:=aa eR;omega) ?_
   intro v' w6 aV bS dX;have ef:=ab ((aa HK).put au (aa aq) hb4' (by rw[hU,aa kz]) hL aV bS dX)
   have hfz:=cT w6 (w.heap.size+1+1) 4 _ _ (show w6.heap[w.heap.size+1+1]? =_ from oy dw bS (am (am (aa HK).out (aa aq)) (ap hb4' hb5)) (by omega))
   have gq:=(hJ (show w6.heap[w.heap.size+1+1]? =_ from oy dw bS (am (am (aa HK).out (aa aq)) (ap hb4' hb5)) (by omega))).2.2.2.2
   have dQ:Hid (S0 w6):=ab (by
    rw[aa ao];have dV:w6.heap[wr.heap.size]? =_:=(bS.block wr.heap.size (i6 (bC.1 (aa dZ)).1 (ap hb4' hb5).size) (fun e=>by have h1:=((aa HK).kids.row.low e.symm).2;omega)).trans (am (aa dZ) (ap hb4' hb5))
    obtain⟨z0,z1,z2,z3,z4⟩:=ej dV;exact⟨gq,z0,z1,z2,z3,z4⟩)
   obtain⟨g6,cap6,eg, -, -⟩:=aV.form (by simp)
   generalize (L++[U]).length=n6 at eg;subst eg;refine dP _ _ (aa dQ) ?_;refine cg 6 (fun K6 gx=> ?_)
   go_simp;refine gx _ _ (aa dQ) ?_;refine g5 (by kernel_rfl) rfl (by kernel_rfl) (fun K7 gu=> ?_)
   clear aV bS dX dw hb5 hb4 hb4' hL hU hS q0 q1 q2 q3 q4 o4;go_simp;refine gu _ _ ?_
   (try simp only[aH,aP,aG])
   (try go_frame)
   clear gu gx dP bH cO K7 K6 K5 K4 K3 F ao aU gq hfz;go_wp2_with fail;exact⟨⟨k+1,_,L++[U],by omega,rfl,aa ef⟩,by simp[intOf];omega⟩
  ·obtain rfl:k=T.len:=by omega
   have g1:¬(T.len:Int) < (T.len:Int):=by omega
   obtain⟨U,gt,eh,gr⟩:=(aa HK).fin (aa gV) (aa jg) (aa dl) (aa eJ);obtain⟨o0,o1,o2,o3,o4⟩:=hJ (aa HK).out;have HX:=ab (aa HK).box;have HU:=ab (And.intro gt (And.intro eh gr));have ay:=(aa HK).lt;clear gt eh gr;go_wp2_with (first
    | (refine aX rfl 27 _ _ rfl (w.heap.size+1) #[.int .i64 T.k,.string T.t,.int .i64 0,.string ⟨#[]⟩,v] rfl rfl 27 aB (aa HX) dK rfl (by rw[←(aa HU).1];exact ik U) ?_)
    | fail)
   (try simp only[Exit.inBlock,Exit.then])
   refine ck (dT rfl _ _ (w.heap.size+1) 27 #[.int .i64 T.k,.string T.t,.int .i64 0,.string ⟨#[]⟩,v] (0,0) _ rfl (cm _ _ _ _ _ _ (aa HX)) underlying27 rfl dK) rfl ?_;exact⟨⟨U,by have h:=(aa HU).1;unfold ai at h;rw[h],(aa HU).2.1,((aa HU).2.2.setRow (by omega) _).mono (by omega)⟩,eL (aa HK).bel _ (by omega) _⟩
end Go.Proofs.YtlmnjbipfacniaaGreatDoor
set_option maxRecDepth 100000
set_option maxHeartbeats 4000000
namespace Go.Proofs.YtlmnjbipfacniaaGreatDoor
open Go.Proofs.Tryz
open Go.RowKit
theorem Mh {T:PT} (ih:∀i,i < T.len→qo (T.kid i)) (hc:T.k=2∨(8≤T.k∧T.k≤11)):qo T:=by
 intro w hT aA;have HA:=ab hT;have gV:=ab aA;have gY:=ab (fR aA).2;have IH:=ab ih;have eR:Hid (T.len≤4096):=ab (by
  obtain⟨-, -, -, -, -, -,gX⟩:=jy (fR aA).1;unfold cD at gX;split at gX
  ·omega
  ·split at gX <;> omega)
 have jg:Hid (⟨#[]⟩=if aE T.k=1 then T.t else ⟨#[]⟩):=ab (by rw[ac (by intro q;unfold aE at q;split at q <;> (try split at q) <;> (try split at q) <;> omega)])
 have dl:Hid (T.n=if aE T.k=2 then T.n else 0):=ab (by rw[af (by unfold aE;rw[ac (by omega),af (by omega)])])
 have eJ:Hid (⟨#[]⟩=if aE T.k=3 then T.nm else ⟨#[]⟩):=ab (by rw[ac (by intro q;unfold aE at q;split at q <;> (try split at q) <;> (try split at q) <;> omega)])
 have e1:(T.k==1)=false:=bn;have HT:Hid (pB T.k=false):=ab (by unfold pB;exact dh (by simp;omega))
 have HN:Hid (pC T.k=true):=ab (by unfold pC;exact eW (by simp;omega))
 have HM:Hid (qt T.k=false):=ab (by unfold qt;exact dh (by simp;omega))
 obtain⟨W,hW⟩:∃W,W=((w.alloc (.cells (ai T) 27)).alloc (.cells aB 27)).alloc (.cells #[.int .i64 T.k,.string ⟨#[]⟩,.int .i64 0,.string ⟨#[]⟩,.slice none 0 0] 27):=⟨_,rfl⟩;have HB:Hid (Below w.heap.size w W):=ab (by rw[hW];exact((ba _).alloc (by simp) _).alloc (by simp;omega) _)
 have HO:Hid (W.heap[w.heap.size+1+1]? =some (.cells #[.int .i64 T.k,.string ⟨#[]⟩,.int .i64 0,.string ⟨#[]⟩,.slice none 0 0] 27 (0,0))):=ab (by rw[hW];exact aw (by simp))
 have HX:Hid (W.heap[w.heap.size+1]? =some (.cells aB 27 (0,0))):=ab (by rw[hW];exact bL (by simp) (aw (by simp)))
 have HP:Hid (W.heap[w.heap.size]? =some (.cells (ai T) 27 (0,0))):=ab (by rw[hW];exact bL (by simp;omega) (bL (by simp) (aw rfl)))
 have HW:=ab hW;have rY:¬w.heap.size=w.heap.size+1+1:=by omega
 have rX:¬w.heap.size+1+1=w.heap.size:=by omega
 clear hT aA ih hW hc;unfold pv;go_enter func29,ntmps29;go_wp2_with fail;rw[show ((w.alloc (.cells #[.int .i64 T.k,.string T.t,.int .i64 T.n,.string T.nm,.slice T.xa T.len T.cap] 27)).alloc (.cells #[.int .i64 0,.string ⟨#[]⟩,.int .i64 0,.string ⟨#[]⟩,.slice none 0 0] 27)).alloc (.cells #[.int .i64 T.k,.string ⟨#[]⟩,.int .i64 0,.string ⟨#[]⟩,.slice none 0 0] 27)=W from (aa HW).symm];clear HW;refine(zs T.k _).mono ?_;rintro e W1 ⟨rfl,hb⟩;have HP:=ab (am (aa HP) hb);have HX:=ab (am (aa HX) hb);have HO:=ab (am (aa HO) hb);have HB:=ab (ap (aa HB) hb);clear hb;rw[aa HT];generalize W1=W at *;obtain⟨c0,c1,c2,c3,c4⟩:=ej (aa HP);obtain⟨o0,o1,o2,o3,o4⟩:=hJ (aa HO);have of:=fun k=>cT W (w.heap.size+1+1) k _ _ (aa HO)
 go_wp2_with fail;clear c0 c1 c2 c3 c4 o0 o1 o2 o3 o4 of;refine(xL T.k _).mono ?_;rintro e W1 ⟨rfl,hb⟩;have HP:=ab (am (aa HP) hb);have HX:=ab (am (aa HX) hb);have HO:=ab (am (aa HO) hb);have HB:=ab (ap (aa HB) hb);clear hb;rw[aa HN];generalize W1=W at *;obtain⟨c0,c1,c2,c3,c4⟩:=ej (aa HP);obtain⟨o0,o1,o2,o3,o4⟩:=hJ (aa HO);have of:=fun k=>cT W (w.heap.size+1+1) k _ _ (aa HO)
 go_wp2_with fail;clear c0 c1 c2 c3 c4 o0 o1 o2 o3 o4 of;have HP:Hid ((W.setCell ⟨w.heap.size+1+1,2,none⟩ (.int .i64 T.n)).heap[w.heap.size]? =some (.cells (ai T) 27 (0,0))):=ab ((dm W ⟨w.heap.size+1+1,2,none⟩ _ _ (by show w.heap.size≠w.heap.size+1+1;omega)).trans (aa HP))
 have HX:Hid ((W.setCell ⟨w.heap.size+1+1,2,none⟩ (.int .i64 T.n)).heap[w.heap.size+1]? =some (.cells aB 27 (0,0))):=ab ((dm W ⟨w.heap.size+1+1,2,none⟩ _ _ (by show w.heap.size+1≠w.heap.size+1+1;omega)).trans (aa HX))
 have HO:Hid ((W.setCell ⟨w.heap.size+1+1,2,none⟩ (.int .i64 T.n)).heap[w.heap.size+1+1]? =some (.cells #[.int .i64 T.k,.string ⟨#[]⟩,.int .i64 T.n,.string ⟨#[]⟩,.slice none 0 0] 27 (0,0))):=ab (fK W (w.heap.size+1+1) 2 _ _ _ (aa HO));have HB:Hid (Below w.heap.size w (W.setCell ⟨w.heap.size+1+1,2,none⟩ (.int .i64 T.n))):=ab (ly (aa HB) (by omega) _ _)
 have hb9:Below (W.setCell ⟨w.heap.size+1+1,2,none⟩ (.int .i64 T.n)).heap.size (W.setCell ⟨w.heap.size+1+1,2,none⟩ (.int .i64 T.n)) ((W.setCell ⟨w.heap.size+1+1,2,none⟩ (.int .i64 T.n)).alloc (.cells #[.int .i64 21,.int .i64 22,.int .i64 23,.int .i64 24] 3)):=ba _;refine(xT T.k _ _ (aw (by simp))).mono ?_
 rintro e W1 ⟨rfl,rfl⟩;have HP:=ab (am (aa HP) hb9);have HX:=ab (am (aa HX) hb9);have HO:=ab (am (aa HO) hb9);have HB:=ab (ap (aa HB) hb9);clear hb9;rw[aa HM];generalize (W.setCell ⟨w.heap.size+1+1,2,none⟩ (.int .i64 T.n)).alloc (.cells #[.int .i64 21,.int .i64 22,.int .i64 23,.int .i64 24] 3)=W at *;obtain⟨c0,c1,c2,c3,c4⟩:=ej (aa HP);obtain⟨o0,o1,o2,o3,o4⟩:=hJ (aa HO);have of:=fun k=>cT W (w.heap.size+1+1) k _ _ (aa HO)
 go_wp2_with fail;clear c0 c1 c2 c3 c4 o0 o1 o2 o3 o4 of;have aD:Hid (Bre w T ⟨#[]⟩ T.n ⟨#[]⟩ W (.slice none 0 0) 0 []):=ab (⟨aa HP,aa HX,aa HO,aa HB,⟨m8 _ _ _ _,rfl,fun x hx=>absurd hx ek⟩⟩)
 clear HP HX HO HB;go_loopw [36] (fun x wr=>∃(k:Nat) (v:Value) (L:List PT),k≤T.len∧x=.int .i64 (k:Int)∧Hid (Bre w T ⟨#[]⟩ T.n ⟨#[]⟩ wr v k L)) (fun x _=>T.len - (intOf x).toNat)
 case atStart=>exact⟨0,_,[],cU _,rfl,aa aD⟩
 case round=>
  obtain⟨k,v,L,hk,rfl,HK⟩:=hrel;clear aD;have js:=aa eR;rcases cX k T.len with au | jc
  ·have g1:(k:Int) < (T.len:Int):=by omega
   have lm:=kid_at (aa HA) au;have bA:=(aa HA).cells au;unfold PT.kv at bA;have HC:=ab (fun W (hb:Below w.heap.size w W)=>aa IH k au W (PT.In.later hb ((aa HA).kids au)) (aa gY k au))
   have cd:=(fun (i:Nat) (x:Value) (h:w.cell? ⟨T.b,i,none⟩=some x)=>av (aa HK).bel h)
   have a0:=cd _ _ bA.1;have a1:=cd _ _ bA.2.1;have a2:=cd _ _ bA.2.2.1;have a3:=cd _ _ bA.2.2.2.1;have a4:=cd _ _ bA.2.2.2.2;clear cd bA;obtain⟨P,hP⟩:∃P,T.kid k=P:=⟨_,rfl⟩;rw[hP] at HC a0 a1 a2 a3 a4;have kz:=ab hP;clear hP;unfold pv at HC;have hb3:Below wr.heap.size wr (wr.alloc (.cells (ai P) 27)):=ba _;have hq:(wr.alloc (.cells (ai P) 27)).heap[wr.heap.size]? =some (.cells (ai P) 27 (0,0)):=aw rfl;have kA:=ab (am (aa HK).out hb3);have aq:=ab hb3;have dZ:=ab hq;go_wp2_with fail;rw[show (#[.int .i64 P.k,.string P.t,.int .i64 P.n,.string P.nm,.slice P.xa P.len P.cap]:Array Value)=ai P from rfl];generalize (wr.alloc (.cells (ai P) 27))=w3 at *;obtain⟨q0,q1,q2,q3,q4⟩:=ej (aa dZ);obtain⟨o0,o1,o2,o3,o4⟩:=hJ (aa kA);clear hq hb3 a0 a1 a2 a3 a4 o0 o1 o2 o3;have dR:=ab (aa HK).lt;obtain⟨S0,aO⟩:∃S0:World→Prop,S0=fun w'=>w'.cell? ⟨w.heap.size+1+1,4,none⟩=some v∧w'.cell? ⟨wr.heap.size,0,none⟩=some (.int .i64 P.k)∧w'.cell? ⟨wr.heap.size,1,none⟩=some (.string P.t)∧w'.cell? ⟨wr.heap.size,2,none⟩=some (.int .i64 P.n)∧w'.cell? ⟨wr.heap.size,3,none⟩=some (.string P.nm)∧w'.cell? ⟨wr.heap.size,4,none⟩=some (.slice P.xa P.len P.cap):=⟨_,rfl⟩
   have ao:=ab aO;have hS:S0 w3.drew:=by rw[aO];exact⟨o4,q0,q1,q2,q3,q4⟩
   have aU:Hid (∀W,Below w3.heap.size w3 W→S0 W):=ab (fun W h=>by rw[aO];exact⟨av h o4,av h q0,av h q1,av h q2,av h q3,av h q4⟩)
   clear aO;refine gZ 7 S0 ?_;intro F;refine aK F 0 ao hS ?_
   (try go_frame)
   refine aK F 1 ao hS ?_
   (try go_frame)
   refine aK F 2 ao hS ?_
   (try go_frame)
   refine cg 3 (fun K3 cO=> ?_)
   go_simp;have ko:Below w.heap.size w w3.drew:=(ap (aa HK).bel (aa aq)).drew;refine(aa HC _ ko).mono ?_;rintro e w4 ⟨⟨U,rfl,hU,hL⟩,hb4⟩;have hb4':Below w3.heap.size w3 w4:=ap (aW _ _).drew hb4;refine cO _ _ (aa aU _ hb4') ?_;refine cg 4 (fun K4 bH=> ?_)
   (try unfold pv)
   go_simp;have hb5:Below w4.heap.size w4 (w4.alloc (.cells (ai U) 27)):=ba _;refine bH _ _ (aa aU _ (ap hb4' hb5)) ?_;refine cg 5 (fun K5 dP=> ?_)
   have dw:cc (w4.alloc (.cells (ai U) 27)) (w.heap.size+1+1+1) 27 5 eO v L:=((aa HK).kids.row.later (aa aq)).later (ap hb4' hb5);have sf:=(aa HK).len hk;refine ql underlying25 vT rfl (by decide) (by decide) jh nK rfl (.tmp 41) (.tmp 44) rfl dw (by rw[eu];have:=aa dR;have:=hb4'.size;have:=(aa aq).size;omega) U w4.heap.size 1 rfl rfl vS (by have:=aa eR;omega) ?_
   intro v' w6 aV bS dX;have ef:=ab ((aa HK).put au (aa aq) hb4' (by rw[hU,aa kz]) hL aV bS dX)
   have hfz:=cT w6 (w.heap.size+1+1) 4 _ _ (show w6.heap[w.heap.size+1+1]? =_ from oy dw bS (am (am (aa HK).out (aa aq)) (ap hb4' hb5)) (by omega))
   have gq:=(hJ (show w6.heap[w.heap.size+1+1]? =_ from oy dw bS (am (am (aa HK).out (aa aq)) (ap hb4' hb5)) (by omega))).2.2.2.2
   have dQ:Hid (S0 w6):=ab (by
    rw[aa ao];have dV:w6.heap[wr.heap.size]? =_:=(bS.block wr.heap.size (i6 (bC.1 (aa dZ)).1 (ap hb4' hb5).size) (fun e=>by have h1:=((aa HK).kids.row.low e.symm).2;omega)).trans (am (aa dZ) (ap hb4' hb5))
    obtain⟨z0,z1,z2,z3,z4⟩:=ej dV;exact⟨gq,z0,z1,z2,z3,z4⟩)
   obtain⟨g6,cap6,eg, -, -⟩:=aV.form (by simp)
   generalize (L++[U]).length=n6 at eg;subst eg;refine dP _ _ (aa dQ) ?_;refine cg 6 (fun K6 gx=> ?_)
   go_simp;refine gx _ _ (aa dQ) ?_;refine g5 (by kernel_rfl) rfl (by kernel_rfl) (fun K7 gu=> ?_)
   clear aV bS dX dw hb5 hb4 hb4' hL hU hS q0 q1 q2 q3 q4 o4;go_simp;refine gu _ _ ?_
   (try simp only[aH,aP,aG])
   (try go_frame)
   clear gu gx dP bH cO K7 K6 K5 K4 K3 F ao aU gq hfz;go_wp2_with fail;exact⟨⟨k+1,_,L++[U],by omega,rfl,aa ef⟩,by simp[intOf];omega⟩
  ·obtain rfl:k=T.len:=by omega
   have g1:¬(T.len:Int) < (T.len:Int):=by omega
   obtain⟨U,gt,eh,gr⟩:=(aa HK).fin (aa gV) (aa jg) (aa dl) (aa eJ);obtain⟨o0,o1,o2,o3,o4⟩:=hJ (aa HK).out;have HX:=ab (aa HK).box;have HU:=ab (And.intro gt (And.intro eh gr));have ay:=(aa HK).lt;clear gt eh gr;go_wp2_with (first
    | (refine aX rfl 27 _ _ rfl (w.heap.size+1) #[.int .i64 T.k,.string ⟨#[]⟩,.int .i64 T.n,.string ⟨#[]⟩,v] rfl rfl 27 aB (aa HX) dK rfl (by rw[←(aa HU).1];exact ik U) ?_)
    | fail)
   (try simp only[Exit.inBlock,Exit.then])
   refine ck (dT rfl _ _ (w.heap.size+1) 27 #[.int .i64 T.k,.string ⟨#[]⟩,.int .i64 T.n,.string ⟨#[]⟩,v] (0,0) _ rfl (cm _ _ _ _ _ _ (aa HX)) underlying27 rfl dK) rfl ?_;exact⟨⟨U,by have h:=(aa HU).1;unfold ai at h;rw[h],(aa HU).2.1,((aa HU).2.2.setRow (by omega) _).mono (by omega)⟩,eL (aa HK).bel _ (by omega) _⟩
open Go.RowKit
theorem KC {T:PT} (ih:∀i,i < T.len→qo (T.kid i)) (hc:21≤T.k∧T.k≤24):qo T:=by
 intro w hT aA;have HA:=ab hT;have gV:=ab aA;have gY:=ab (fR aA).2;have IH:=ab ih;have eR:Hid (T.len≤4096):=ab (by
  obtain⟨-, -, -, -, -, -,gX⟩:=jy (fR aA).1;unfold cD at gX;split at gX
  ·omega
  ·split at gX <;> omega)
 have jg:Hid (⟨#[]⟩=if aE T.k=1 then T.t else ⟨#[]⟩):=ab (by rw[ac (by intro q;unfold aE at q;split at q <;> (try split at q) <;> (try split at q) <;> omega)])
 have dl:Hid (0=if aE T.k=2 then T.n else 0):=ab (by rw[ac (by intro q;unfold aE at q;split at q <;> (try split at q) <;> (try split at q) <;> omega)])
 have eJ:Hid (T.nm=if aE T.k=3 then T.nm else ⟨#[]⟩):=ab (by rw[af (by unfold aE;rw[ac (by omega),ac (by omega),af (by omega)])])
 have e1:(T.k==1)=false:=bn;have HT:Hid (pB T.k=false):=ab (by unfold pB;exact dh (by simp;omega))
 have HN:Hid (pC T.k=false):=ab (by unfold pC;exact dh (by simp;omega))
 have HM:Hid (qt T.k=true):=ab (by unfold qt;exact eW (by simp;omega))
 obtain⟨W,hW⟩:∃W,W=((w.alloc (.cells (ai T) 27)).alloc (.cells aB 27)).alloc (.cells #[.int .i64 T.k,.string ⟨#[]⟩,.int .i64 0,.string ⟨#[]⟩,.slice none 0 0] 27):=⟨_,rfl⟩;have HB:Hid (Below w.heap.size w W):=ab (by rw[hW];exact((ba _).alloc (by simp) _).alloc (by simp;omega) _)
 have HO:Hid (W.heap[w.heap.size+1+1]? =some (.cells #[.int .i64 T.k,.string ⟨#[]⟩,.int .i64 0,.string ⟨#[]⟩,.slice none 0 0] 27 (0,0))):=ab (by rw[hW];exact aw (by simp))
 have HX:Hid (W.heap[w.heap.size+1]? =some (.cells aB 27 (0,0))):=ab (by rw[hW];exact bL (by simp) (aw (by simp)))
 have HP:Hid (W.heap[w.heap.size]? =some (.cells (ai T) 27 (0,0))):=ab (by rw[hW];exact bL (by simp;omega) (bL (by simp) (aw rfl)))
 have HW:=ab hW;have rY:¬w.heap.size=w.heap.size+1+1:=by omega
 have rX:¬w.heap.size+1+1=w.heap.size:=by omega
 clear hT aA ih hW hc;unfold pv;go_enter func29,ntmps29;go_wp2_with fail;rw[show ((w.alloc (.cells #[.int .i64 T.k,.string T.t,.int .i64 T.n,.string T.nm,.slice T.xa T.len T.cap] 27)).alloc (.cells #[.int .i64 0,.string ⟨#[]⟩,.int .i64 0,.string ⟨#[]⟩,.slice none 0 0] 27)).alloc (.cells #[.int .i64 T.k,.string ⟨#[]⟩,.int .i64 0,.string ⟨#[]⟩,.slice none 0 0] 27)=W from (aa HW).symm];clear HW;refine(zs T.k _).mono ?_;rintro e W1 ⟨rfl,hb⟩;have HP:=ab (am (aa HP) hb);have HX:=ab (am (aa HX) hb);have HO:=ab (am (aa HO) hb);have HB:=ab (ap (aa HB) hb);clear hb;rw[aa HT];generalize W1=W at *;obtain⟨c0,c1,c2,c3,c4⟩:=ej (aa HP);obtain⟨o0,o1,o2,o3,o4⟩:=hJ (aa HO);have of:=fun k=>cT W (w.heap.size+1+1) k _ _ (aa HO)
 go_wp2_with fail;clear c0 c1 c2 c3 c4 o0 o1 o2 o3 o4 of;refine(xL T.k _).mono ?_;rintro e W1 ⟨rfl,hb⟩;have HP:=ab (am (aa HP) hb);have HX:=ab (am (aa HX) hb);have HO:=ab (am (aa HO) hb);have HB:=ab (ap (aa HB) hb);clear hb;rw[aa HN];generalize W1=W at *;obtain⟨c0,c1,c2,c3,c4⟩:=ej (aa HP);obtain⟨o0,o1,o2,o3,o4⟩:=hJ (aa HO);have of:=fun k=>cT W (w.heap.size+1+1) k _ _ (aa HO)
 go_wp2_with fail;clear c0 c1 c2 c3 c4 o0 o1 o2 o3 o4 of;have hb9:Below W.heap.size W (W.alloc (.cells #[.int .i64 21,.int .i64 22,.int .i64 23,.int .i64 24] 3)):=ba _;refine(xT T.k _ _ (aw (by simp))).mono ?_
 rintro e W1 ⟨rfl,rfl⟩;have HP:=ab (am (aa HP) hb9);have HX:=ab (am (aa HX) hb9);have HO:=ab (am (aa HO) hb9);have HB:=ab (ap (aa HB) hb9);clear hb9;rw[aa HM];generalize W.alloc (.cells #[.int .i64 21,.int .i64 22,.int .i64 23,.int .i64 24] 3)=W at *;obtain⟨c0,c1,c2,c3,c4⟩:=ej (aa HP);obtain⟨o0,o1,o2,o3,o4⟩:=hJ (aa HO);have of:=fun k=>cT W (w.heap.size+1+1) k _ _ (aa HO)
 go_wp2_with fail;clear c0 c1 c2 c3 c4 o0 o1 o2 o3 o4 of;have HP:Hid ((W.setCell ⟨w.heap.size+1+1,3,none⟩ (.string T.nm)).heap[w.heap.size]? =some (.cells (ai T) 27 (0,0))):=ab ((dm W ⟨w.heap.size+1+1,3,none⟩ _ _ (by show w.heap.size≠w.heap.size+1+1;omega)).trans (aa HP))
 have HX:Hid ((W.setCell ⟨w.heap.size+1+1,3,none⟩ (.string T.nm)).heap[w.heap.size+1]? =some (.cells aB 27 (0,0))):=ab ((dm W ⟨w.heap.size+1+1,3,none⟩ _ _ (by show w.heap.size+1≠w.heap.size+1+1;omega)).trans (aa HX))
 have HO:Hid ((W.setCell ⟨w.heap.size+1+1,3,none⟩ (.string T.nm)).heap[w.heap.size+1+1]? =some (.cells #[.int .i64 T.k,.string ⟨#[]⟩,.int .i64 0,.string T.nm,.slice none 0 0] 27 (0,0))):=ab (fK W (w.heap.size+1+1) 3 _ _ _ (aa HO));have HB:Hid (Below w.heap.size w (W.setCell ⟨w.heap.size+1+1,3,none⟩ (.string T.nm))):=ab (ly (aa HB) (by omega) _ _)
 generalize W.setCell ⟨w.heap.size+1+1,3,none⟩ (.string T.nm)=W at *;have aD:Hid (Bre w T ⟨#[]⟩ 0 T.nm W (.slice none 0 0) 0 []):=ab (⟨aa HP,aa HX,aa HO,aa HB,⟨m8 _ _ _ _,rfl,fun x hx=>absurd hx ek⟩⟩)
 clear HP HX HO HB;go_loopw [36] (fun x wr=>∃(k:Nat) (v:Value) (L:List PT),k≤T.len∧x=.int .i64 (k:Int)∧Hid (Bre w T ⟨#[]⟩ 0 T.nm wr v k L)) (fun x _=>T.len - (intOf x).toNat)
 case atStart=>exact⟨0,_,[],cU _,rfl,aa aD⟩
 case round=>
  obtain⟨k,v,L,hk,rfl,HK⟩:=hrel;clear aD;have js:=aa eR;rcases cX k T.len with au | jc
  ·have g1:(k:Int) < (T.len:Int):=by omega
   have lm:=kid_at (aa HA) au;have bA:=(aa HA).cells au;unfold PT.kv at bA;have HC:=ab (fun W (hb:Below w.heap.size w W)=>aa IH k au W (PT.In.later hb ((aa HA).kids au)) (aa gY k au))
   have cd:=(fun (i:Nat) (x:Value) (h:w.cell? ⟨T.b,i,none⟩=some x)=>av (aa HK).bel h)
   have a0:=cd _ _ bA.1;have a1:=cd _ _ bA.2.1;have a2:=cd _ _ bA.2.2.1;have a3:=cd _ _ bA.2.2.2.1;have a4:=cd _ _ bA.2.2.2.2;clear cd bA;obtain⟨P,hP⟩:∃P,T.kid k=P:=⟨_,rfl⟩;rw[hP] at HC a0 a1 a2 a3 a4;have kz:=ab hP;clear hP;unfold pv at HC;have hb3:Below wr.heap.size wr (wr.alloc (.cells (ai P) 27)):=ba _;have hq:(wr.alloc (.cells (ai P) 27)).heap[wr.heap.size]? =some (.cells (ai P) 27 (0,0)):=aw rfl;have kA:=ab (am (aa HK).out hb3);have aq:=ab hb3;have dZ:=ab hq;go_wp2_with fail;rw[show (#[.int .i64 P.k,.string P.t,.int .i64 P.n,.string P.nm,.slice P.xa P.len P.cap]:Array Value)=ai P from rfl];generalize (wr.alloc (.cells (ai P) 27))=w3 at *;obtain⟨q0,q1,q2,q3,q4⟩:=ej (aa dZ);obtain⟨o0,o1,o2,o3,o4⟩:=hJ (aa kA);clear hq hb3 a0 a1 a2 a3 a4 o0 o1 o2 o3;have dR:=ab (aa HK).lt;obtain⟨S0,aO⟩:∃S0:World→Prop,S0=fun w'=>w'.cell? ⟨w.heap.size+1+1,4,none⟩=some v∧w'.cell? ⟨wr.heap.size,0,none⟩=some (.int .i64 P.k)∧w'.cell? ⟨wr.heap.size,1,none⟩=some (.string P.t)∧w'.cell? ⟨wr.heap.size,2,none⟩=some (.int .i64 P.n)∧w'.cell? ⟨wr.heap.size,3,none⟩=some (.string P.nm)∧w'.cell? ⟨wr.heap.size,4,none⟩=some (.slice P.xa P.len P.cap):=⟨_,rfl⟩
   have ao:=ab aO;have hS:S0 w3.drew:=by rw[aO];exact⟨o4,q0,q1,q2,q3,q4⟩
   have aU:Hid (∀W,Below w3.heap.size w3 W→S0 W):=ab (fun W h=>by rw[aO];exact⟨av h o4,av h q0,av h q1,av h q2,av h q3,av h q4⟩)
   clear aO;refine gZ 7 S0 ?_;intro F;refine aK F 0 ao hS ?_
   (try go_frame)
   refine aK F 1 ao hS ?_
   (try go_frame)
   refine aK F 2 ao hS ?_
   (try go_frame)
   refine cg 3 (fun K3 cO=> ?_)
   go_simp;have ko:Below w.heap.size w w3.drew:=(ap (aa HK).bel (aa aq)).drew;refine(aa HC _ ko).mono ?_;rintro e w4 ⟨⟨U,rfl,hU,hL⟩,hb4⟩;have hb4':Below w3.heap.size w3 w4:=ap (aW _ _).drew hb4;refine cO _ _ (aa aU _ hb4') ?_;refine cg 4 (fun K4 bH=> ?_)
   (try unfold pv)
   go_simp;have hb5:Below w4.heap.size w4 (w4.alloc (.cells (ai U) 27)):=ba _;refine bH _ _ (aa aU _ (ap hb4' hb5)) ?_;refine cg 5 (fun K5 dP=> ?_)
   have dw:cc (w4.alloc (.cells (ai U) 27)) (w.heap.size+1+1+1) 27 5 eO v L:=((aa HK).kids.row.later (aa aq)).later (ap hb4' hb5);have sf:=(aa HK).len hk;refine ql underlying25 vT rfl (by decide) (by decide) jh nK rfl (.tmp 41) (.tmp 44) rfl dw (by rw[eu];have:=aa dR;have:=hb4'.size;have:=(aa aq).size;omega) U w4.heap.size 1 rfl rfl vS (by have:=aa eR;omega) ?_
   intro v' w6 aV bS dX;have ef:=ab ((aa HK).put au (aa aq) hb4' (by rw[hU,aa kz]) hL aV bS dX)
   have hfz:=cT w6 (w.heap.size+1+1) 4 _ _ (show w6.heap[w.heap.size+1+1]? =_ from oy dw bS (am (am (aa HK).out (aa aq)) (ap hb4' hb5)) (by omega))
   have gq:=(hJ (show w6.heap[w.heap.size+1+1]? =_ from oy dw bS (am (am (aa HK).out (aa aq)) (ap hb4' hb5)) (by omega))).2.2.2.2
   have dQ:Hid (S0 w6):=ab (by
    rw[aa ao];have dV:w6.heap[wr.heap.size]? =_:=(bS.block wr.heap.size (i6 (bC.1 (aa dZ)).1 (ap hb4' hb5).size) (fun e=>by have h1:=((aa HK).kids.row.low e.symm).2;omega)).trans (am (aa dZ) (ap hb4' hb5))
    obtain⟨z0,z1,z2,z3,z4⟩:=ej dV;exact⟨gq,z0,z1,z2,z3,z4⟩)
   obtain⟨g6,cap6,eg, -, -⟩:=aV.form (by simp)
   generalize (L++[U]).length=n6 at eg;subst eg;refine dP _ _ (aa dQ) ?_;refine cg 6 (fun K6 gx=> ?_)
   go_simp;refine gx _ _ (aa dQ) ?_;refine g5 (by kernel_rfl) rfl (by kernel_rfl) (fun K7 gu=> ?_)
   clear aV bS dX dw hb5 hb4 hb4' hL hU hS q0 q1 q2 q3 q4 o4;go_simp;refine gu _ _ ?_
   (try simp only[aH,aP,aG])
   (try go_frame)
   clear gu gx dP bH cO K7 K6 K5 K4 K3 F ao aU gq hfz;go_wp2_with fail;exact⟨⟨k+1,_,L++[U],by omega,rfl,aa ef⟩,by simp[intOf];omega⟩
  ·obtain rfl:k=T.len:=by omega
   have g1:¬(T.len:Int) < (T.len:Int):=by omega
   obtain⟨U,gt,eh,gr⟩:=(aa HK).fin (aa gV) (aa jg) (aa dl) (aa eJ);obtain⟨o0,o1,o2,o3,o4⟩:=hJ (aa HK).out;have HX:=ab (aa HK).box;have HU:=ab (And.intro gt (And.intro eh gr));have ay:=(aa HK).lt;clear gt eh gr;go_wp2_with (first
    | (refine aX rfl 27 _ _ rfl (w.heap.size+1) #[.int .i64 T.k,.string ⟨#[]⟩,.int .i64 0,.string T.nm,v] rfl rfl 27 aB (aa HX) dK rfl (by rw[←(aa HU).1];exact ik U) ?_)
    | fail)
   (try simp only[Exit.inBlock,Exit.then])
   refine ck (dT rfl _ _ (w.heap.size+1) 27 #[.int .i64 T.k,.string ⟨#[]⟩,.int .i64 0,.string T.nm,v] (0,0) _ rfl (cm _ _ _ _ _ _ (aa HX)) underlying27 rfl dK) rfl ?_;exact⟨⟨U,by have h:=(aa HU).1;unfold ai at h;rw[h],(aa HU).2.1,((aa HU).2.2.setRow (by omega) _).mono (by omega)⟩,eL (aa HK).bel _ (by omega) _⟩
open Go.RowKit
theorem Ir:∀T:PT,qo T:=PT.ind fun T ih=>by
 intro w hT aA;obtain⟨k1,k24, -⟩:=jy (fR aA).1;rcases (show T.k=1∨(3≤T.k∧T.k≤7)∨(T.k=2∨(8≤T.k∧T.k≤11))∨(12≤T.k∧T.k≤20)∨(21≤T.k∧T.k≤24) by omega) with h | h | h | h | h
 ·exact Mi ih h w hT aA
 ·exact KA ih h w hT aA
 ·exact Mh ih h w hT aA
 ·exact KB ih h w hT aA
 ·exact KC ih h w hT aA
end Go.Proofs.YtlmnjbipfacniaaGreatDoor
