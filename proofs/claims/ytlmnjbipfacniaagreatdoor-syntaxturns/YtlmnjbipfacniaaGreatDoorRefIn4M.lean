/- The document's Bare of a statement: what lies where. The doc -/
import Derived.Test.YtlmnjbipfacniaaGreatDoorBxBM
import Derived.Test.YtlmnjbipfacniaaGreatDoorSyU0M
import Derived.Test.YtlmnjbipfacniaaGreatDoorSyQM
import Derived.Test.YtlmnjbipfacniaaGreatDoorLnBM
import Derived.Test.YtlmnjbipfacniaaGreatDoorPatSizeP
set_option maxRecDepth 100000
set_option maxHeartbeats 400000
namespace Go.Proofs.YtlmnjbipfacniaaGreatDoor
open Go.Proofs.Tryz
open Go.RowKit
structure BS (w W:World) (S U:SV):Prop where
 box:W.heap[w.heap.size]? =some (.cells S.cells 30 (0,0))
 res:W.heap[w.heap.size+1]? =some (.cells bh.cells 30 (0,0))
 out:W.heap[w.heap.size+1+1]? =some (.cells U.cells 30 (0,0))
 bel:Below w.heap.size w W
 sin:S.In w
 uin:∀X,Below w.heap.size w X→(∀i,w.heap.size+1+1+1≤i→i < W.heap.size→X.heap[i]? =W.heap[i]?)→U.In X
section
variable {w W W':World} {S U:SV}
theorem BS.lt (h:BS w W S U):w.heap.size+1+1 < W.heap.size:=(bC.1 h.out).1
theorem BS.below (h:BS w W S U) (hb:Below W.heap.size W W'):BS w W' S U:=
 ⟨am h.box hb,am h.res hb,am h.out hb,ap h.bel hb,h.sin,fun X hX hi=>h.uin X hX fun i h1 h2=>(hi i h1 (i6 h2 hb.size)).trans (hb.block i h2)⟩
theorem DO (w:World):(dj []).In w:=⟨ax _,by show 0≤maxLen;exact cU _,fun h=>absurd h (by decide),fun i t ht=>by simp[dj] at ht⟩
def SV.u0 (S:SV):SV:=⟨S.lab,S.k,PT.nul,PT.nul,PT.nul,ByteArray.empty,ByteArray.empty,dj [],dj [],S.al,S.ye,S.no⟩
theorem u0_in {S:SV} {w:World} (h:S.In w) (X:World):S.u0.In X:=
 ⟨⟨h.txt.1,by show 0≤maxLen;exact cU _,by show 0≤maxLen;exact cU _,h.txt.2.2.2.1,h.txt.2.2.2.2.1,h.txt.2.2.2.2.2⟩,xg X,xg X,xg X,DO X,DO X⟩
theorem BS.cell (h:BS w W S U) {i:Nat} {x:Value} (hx:S.cells[i]? =some x):W.cell? ⟨w.heap.size,i,none⟩=some x:=by
 rw[eX _ _ _ _ _ _ h.box];exact hx
theorem BS.put5 (h:BS w W S U) {k:Nat} {T:PT} {U':SV} (hc:U'.cells=(((((U.cells.setIfInBounds k (.int .i64 T.k)).setIfInBounds (k+1) (.string T.t)).setIfInBounds (k+2) (.int .i64 T.n)).setIfInBounds (k+3) (.string T.nm)).setIfInBounds (k+4) (.slice T.xa T.len T.cap)))
  (hu:∀X,U.In X→T.In X→U'.In X) (hT:bd (w.heap.size+1+1+1) W T):BS w (set5 W (w.heap.size+1+1) k T) S U':=by
 refine⟨(lT _ _ _ _ _ (by omega)).trans h.box,(lT _ _ _ _ _ (by omega)).trans h.res,by rw[hc];exact DG _ _ _ _ h.out, ?_,h.sin,fun X hX hi=> ?_⟩
 ·unfold Go.Proofs.YtlmnjbipfacniaaGreatDoor.set5
  exact ly (ly (ly (ly (ly h.bel (by omega) _ _) (by omega) _ _) (by omega) _ _) (by omega) _ _) (by omega) _ _
 ·have hi':∀i,w.heap.size+1+1+1≤i→i < W.heap.size→X.heap[i]? =W.heap[i]? :=fun i h1 h2=>(hi i h1 (by rw[mS];exact h2)).trans (lT _ _ _ _ _ (by omega))
  exact hu X (h.uin X hX hi') (hT X hi')
theorem BS.va (h:BS w W S U) {T:PT} (hT:bd (w.heap.size+1+1+1) W T):BS w (set5 W (w.heap.size+1+1) 7 T) S {U with va:=T}:=
 h.put5 rfl (fun _ a b=>⟨a.txt,a.tg,b,a.pa,a.ps,a.ls⟩) hT
theorem BS.tg (h:BS w W S U) {T:PT} (hT:bd (w.heap.size+1+1+1) W T):BS w (set5 W (w.heap.size+1+1) 2 T) S {U with tg:=T}:=
 h.put5 rfl (fun _ a b=>⟨a.txt,b,a.va,a.pa,a.ps,a.ls⟩) hT
theorem BS.pa (h:BS w W S U) {T:PT} (hT:bd (w.heap.size+1+1+1) W T):BS w (set5 W (w.heap.size+1+1) 12 T) S {U with pa:=T}:=
 h.put5 rfl (fun _ a b=>⟨a.txt,a.tg,a.va,b,a.ps,a.ls⟩) hT
theorem BS.set1 (h:BS w W S U) {k:Nat} {x:Value} {U':SV} (hc:U'.cells=U.cells.setIfInBounds k x) (hu:∀X,Below w.heap.size w X→U.In X→U'.In X):BS w (W.setCell ⟨w.heap.size+1+1,k,none⟩ x) S U':=by
 have ho:∀i,i≠w.heap.size+1+1→(W.setCell ⟨w.heap.size+1+1,k,none⟩ x).heap[i]? =W.heap[i]? :=fun i hi=>dm W ⟨w.heap.size+1+1,k,none⟩ i x hi
 refine⟨(ho _ (by omega)).trans h.box,(ho _ (by omega)).trans h.res,by rw[hc];exact fK W (w.heap.size+1+1) k _ _ x h.out,ly h.bel (by omega) _ _,h.sin,fun X hX hi=>hu X hX (h.uin X hX fun i h1 h2=>(hi i h1 (by rw[nV];exact h2)).trans (ho i (by omega)))⟩
theorem BS.nm (h:BS w W S U):BS w (W.setCell ⟨w.heap.size+1+1,17,none⟩ (.string S.nm)) S {U with nm:=S.nm}:=
 h.set1 rfl fun _ _ a=>⟨⟨a.txt.1,h.sin.txt.2.1,a.txt.2.2⟩,a.tg,a.va,a.pa,a.ps,a.ls⟩
theorem BS.en (h:BS w W S U):BS w (W.setCell ⟨w.heap.size+1+1,18,none⟩ (.string S.en)) S {U with en:=S.en}:=
 h.set1 rfl fun _ _ a=>⟨⟨a.txt.1,a.txt.2.1,h.sin.txt.2.2.1,a.txt.2.2.2⟩,a.tg,a.va,a.pa,a.ps,a.ls⟩
theorem BS.ps (h:BS w W S U):BS w (W.setCell ⟨w.heap.size+1+1,19,none⟩ S.ps.v) S {U with ps:=S.ps}:=
 h.set1 rfl fun _ b a=>⟨a.txt,a.tg,a.va,a.pa,h.sin.ps.later b,a.ls⟩
theorem BS.ls (h:BS w W S U):BS w (W.setCell ⟨w.heap.size+1+1,20,none⟩ S.ls.v) S {U with ls:=S.ls}:=
 h.set1 rfl fun _ b a=>⟨a.txt,a.tg,a.va,a.pa,a.ps,h.sin.ls.later b⟩
def rB (w:World) (S:SV) (e:Ending) (w':World):Prop:=(∃U:SV,e=.returned U.v∧U.can=S.bst∧U.In w')∧Below w.heap.size w w'
theorem BS.fin (h:BS w W S U) (hc:U.can=S.bst):rB w S (.returned (.agg U.cells)) (W.setRow (w.heap.size+1) U.cells):=
 ⟨⟨U,rfl,hc,h.uin _ (eL h.bel _ (by omega) _) fun i h1 h2=>dH _ _ _ _ (by omega)⟩,eL h.bel _ (by omega) _⟩
end
open Go.RowKit
theorem Kt (v0 v9 v10 v11:ByteArray) (v1:Int):prog.built 30 [(0,.string v0),(1,.int .i64 v1),(9,.string v9),(10,.string v10),(11,.string v11)]=some #[.string v0,.int .i64 v1,.int .i64 0,.string ⟨#[]⟩,.int .i64 0,.string ⟨#[]⟩,.slice none 0 0,.int .i64 0,.string ⟨#[]⟩,.int .i64 0,.string ⟨#[]⟩,.slice none 0 0,.int .i64 0,.string ⟨#[]⟩,.int .i64 0,.string ⟨#[]⟩,.slice none 0 0,.string ⟨#[]⟩,.string ⟨#[]⟩,.slice none 0 0,.slice none 0 0,.string v9,.string v10,.string v11]:=by kernel_rfl
theorem Hn {P:Program} {ops:Array Oper} {rest:List Oper} {o:Oper} {a:Act} {w:World} {Q:Exit→Act→World→Prop} (hg:o.guard=none) (t:TypeId) (i0 i1 i2 i3 i4:Nat) (x0 x1 x2 x3 x4:Operand) (v0 v1 v2 v3 v4:Value) (ho:o.op=.build t #[(i0,x0),(i1,x1),(i2,x2),(i3,x3),(i4,x4)]) (cs:Array Value)
  (h0:a.eval x0=v0) (h1:a.eval x1=v1) (h2:a.eval x2=v2) (h3:a.eval x3=v3) (h4:a.eval x4=v4)
  (hf:P.built t [(i0,v0),(i1,v1),(i2,v2),(i3,v3),(i4,v4)]=some cs) (h:wpList P ops Q rest (a.put o.dst (.agg cs)) w):wpList P ops Q (o::rest) a w:=by
 have e:((#[(i0,x0),(i1,x1),(i2,x2),(i3,x3),(i4,x4)]:Array (Nat × Operand)).map fun (i,x)=>(i,a.eval x)).toList=[(i0,v0),(i1,v1),(i2,v2),(i3,v3),(i4,v4)]:=by
  rw[←h0,←h1,←h2,←h3,←h4];simp
 refine wpList_build hg t _ ho (by rw[e,hf];rfl) ?_
 rw[e,hf];exact h
open Go.RowKit
theorem Cl (k:Int) (l:List Int) (g:Nat) (w:World) (hl:l.length≤24) (hc:∀i,i < l.length→w.cell? ⟨g,i,none⟩=some (.int .i64 (l.getD i 0))):
  Calls prog 60 #[.int .i64 k,.slice (some ⟨g,0,none⟩) l.length l.length] w fun e w'=>e=.returned (.bool (decide (k ∈ l)))∧w'=w:=by
 have HC:=ab hc;clear hc;generalize hn:l.length=n at *;have HN:=ab hn;clear hn;go_enter func60,ntmps60;go_wp2;go_loop [9] (fun i=>∃j:Nat,j≤n∧i=.int .i64 (j:Int)∧∀q,q < j→l.getD q 0≠k) (fun i=>n - (intOf i).toNat)
 case atStart=>exact⟨0,by omega,rfl,fun q hq=>by omega⟩
 case round=>
  obtain⟨j,hj,rfl,hq⟩:=hrel;have HQ:=ab hq;clear hq;rcases cX j n with hjt | hjt
  ·have c:=aa HC j hjt
   by_cases he:l.getD j 0=k
   ·have HM:Hid (decide (k ∈ l)=true):=ab (by
     rw[decide_eq_true_eq,←he];have:j < l.length:=by rw[aa HN];exact hjt
     rw[List.getD,jH this];exact qz this)
    have hb:(l.getD j 0==k)=true:=bt he;clear he;generalize l.getD j 0=x at *;go_wp2;go_ret;exact⟨by rw[aa HM];rfl,rfl⟩
   ·have HW:Hid (∀q,q < j+1→l.getD q 0≠k):=ab (fun q hq=>by
     rcases cX q j with h | h
     ·exact aa HQ q h
     ·rw[show q=j by omega];exact he)
    have hb:(l.getD j 0==k)=false:=bn he;clear he;generalize l.getD j 0=x at *;go_wp2;exact⟨⟨j+1,by omega,by go_num,aa HW⟩,by simp[intOf];omega⟩
  ·have HM:Hid (decide (k ∈ l)=false):=ab (by
    rw[decide_eq_false_iff_not];intro hm;obtain⟨q,hq,he⟩:=List.getElem_of_mem hm;refine aa HQ q (by have:=aa HN;omega) ?_
    rw[List.getD,jH hq];exact he)
   go_wp2;go_ret;exact⟨by rw[aa HM];rfl,rfl⟩
theorem Bz {w:World} {g:Nat} {l:List Int} {t:TypeId} (h:w.heap[g]? =some (.cells (l.map fun n=>Value.int .i64 n).toArray t (0,0))):∀i,i < l.length→w.cell? ⟨g,i,none⟩=some (.int .i64 (l.getD i 0)):=fun i hi=>by
 rw[eX _ _ _ _ _ _ h];simp[List.getD,hi]
def pB (k:Int):Bool:=decide (k ∈ [3,4,5,6,7])
theorem Kh (k:Int) (g:Nat) (w:World) (h:w.heap[g]? =some (.cells #[.int .i64 3,.int .i64 4,.int .i64 5,.int .i64 6,.int .i64 7] 3 (0,0))):
  Calls prog 60 #[.int .i64 k,.slice (some ⟨g,0,none⟩) 5 5] w fun e w'=>e=.returned (.bool (pB k))∧w'=w:=Cl k [3,4,5,6,7] g w (by decide) (Bz h)
def pC (k:Int):Bool:=decide (k ∈ [2,8,9,10,11])
theorem LU (k:Int) (g:Nat) (w:World) (h:w.heap[g]? =some (.cells #[.int .i64 2,.int .i64 8,.int .i64 9,.int .i64 10,.int .i64 11] 3 (0,0))):
  Calls prog 60 #[.int .i64 k,.slice (some ⟨g,0,none⟩) 5 5] w fun e w'=>e=.returned (.bool (pC k))∧w'=w:=Cl k [2,8,9,10,11] g w (by decide) (Bz h)
def qt (k:Int):Bool:=decide (k ∈ [21,22,23,24])
theorem xT (k:Int) (g:Nat) (w:World) (h:w.heap[g]? =some (.cells #[.int .i64 21,.int .i64 22,.int .i64 23,.int .i64 24] 3 (0,0))):
  Calls prog 60 #[.int .i64 k,.slice (some ⟨g,0,none⟩) 4 4] w fun e w'=>e=.returned (.bool (qt k))∧w'=w:=Cl k [21,22,23,24] g w (by decide) (Bz h)
theorem zs (k:Int) (w:World):
  Calls prog 58 #[.int .i64 k] w fun e w'=>e=.returned (.bool (pB k))∧Below w.heap.size w w':=by
 go_enter func58,ntmps58;go_wp2_with (go_at_call 60;refine(Kh k _ _ (aw rfl)).mono ?_;rintro e w1 ⟨rfl,rfl⟩);go_ret;exact⟨rfl,ba _⟩
theorem xL (k:Int) (w:World):
  Calls prog 59 #[.int .i64 k] w fun e w'=>e=.returned (.bool (pC k))∧Below w.heap.size w w':=by
 go_enter func59,ntmps59;go_wp2_with (go_at_call 60;refine(LU k _ _ (aw rfl)).mono ?_;rintro e w1 ⟨rfl,rfl⟩);go_ret;exact⟨rfl,ba _⟩
end Go.Proofs.YtlmnjbipfacniaaGreatDoor
