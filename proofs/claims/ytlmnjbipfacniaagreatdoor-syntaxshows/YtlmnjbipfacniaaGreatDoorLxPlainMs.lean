/- Rows of entries of the call's own. Lines and tokens, plain. -/
import Derived.Test.YtlmnjbipfacniaaGreatDoorPatSizePs
import Derived.Maps.AppendAt
import Derived.Test.YtlmnjbipfacniaaGreatDoorLexRepLibMs
import Derived.Test.YtlmnjbipfacniaaGreatDoorRdPlainMs
namespace Go.Proofs.YtlmnjbipfacniaaGreatDoor
open Go.Proofs.Tryz
open Go.RowKit
def qP {α:Type} (f:α→List Value) (l:List α):List Value:=l.flatMap f
section
variable {α:Type} {f:α→List Value} {sz:Nat}
theorem Ej (hf:∀x,(f x).length=sz):∀(l:List α) (i k:Nat) (x:α),l[i]? =some x→k < sz→(qP f l)[i * sz+k]? =(f x)[k]?
 | [],i,k,x,h,_=>by simp at h
 | y::l,0,k,x,h,hk=>by
  have:y=x:=by simpa using h
  subst this;show (f y++qP f l)[0 * sz+k]? =_;rw[Nat.zero_mul,ni,List.getElem?_append_left (by rw[hf];exact hk)]
 | y::l,i+1,k,x,h,hk=>by
  show (f y++qP f l)[(i+1) * sz+k]? =_;rw[List.getElem?_append_right (by rw[hf,Nat.add_mul];omega),hf,show (i+1) * sz+k - sz=i * sz+k by rw[Nat.add_mul];omega]
  exact Ej hf l i k x (by simpa using h) hk
end
theorem If {α:Type} (f:α→List Value) (a b:List α):qP f (a++b)=qP f a++qP f b:=by unfold qP;rw[List.flatMap_append]
theorem Lt {α:Type} (f:α→List Value) (a:α):qP f [a]=f a:=by simp[qP]
def bP {α:Type} (w:World) (B:Nat) (e:TypeId) (sz:Nat) (f:α→List Value) (v:Value) (l:List α):Prop:=w.ownsRow B e sz v l.length (qP f l)
section
variable {α:Type} {w w':World} {B:Nat} {e:TypeId} {sz:Nat} {f:α→List Value} {v:Value} {l:List α}
theorem bP.low (h:bP w B e sz f v l) {k:Nat} (hk:v.ownBlock=some k):B≤k∧k < w.heap.size:=uO h k hk
theorem bP.same (h:bP w B e sz f v l) (hs:∀k,v.ownBlock=some k→w'.heap[k]? =w.heap[k]?):bP w' B e sz f v l:=by
 rcases h with ⟨h1,⟨rfl,h2⟩ | ⟨g,cap,cur,rfl,hb,hg,hr⟩⟩
 ·exact⟨h1,.inl ⟨rfl,h2⟩⟩
 ·exact⟨h1,.inr ⟨g,cap,cur,rfl,hb,(hs g rfl).trans hg,hr⟩⟩
theorem bP.later (h:bP w B e sz f v l) (hb:Below w.heap.size w w'):bP w' B e sz f v l:=h.same fun k hk=>hb.block k (h.low hk).2
theorem bP.form (h:bP w B e sz f v l) (hl:l≠[]):∃g cap,v=.slice (some ⟨g,0,none⟩) l.length cap∧l.length≤cap∧cap≤maxLen:=by
 rcases h.2 with ⟨_,h0⟩ | ⟨g,cap,cur,rfl,_,_,h1,h2,_⟩
 ·exact absurd (kG h0) hl
 ·exact⟨g,cap,rfl,h1,h2⟩
theorem bP.max (h:bP w B e sz f v l):l.length≤maxLen:=by
 rcases h.2 with ⟨_,h0⟩ | ⟨g,cap,cur,rfl,_,_,h1,h2,_⟩
 ·rw[h0];exact cU _
 ·omega
def lenV (v:Value):Nat:=match v with | .slice _ n _=>n | _=>0
theorem bP.len (h:bP w B e sz f v l):∃a cap,v=.slice a l.length cap∧(a=none→cap=0∧l.length=0)∧l.length≤cap:=by
 rcases h.2 with ⟨rfl,h0⟩ | ⟨g,cap,cur,rfl,_,_,h1,h2,_⟩
 ·exact⟨none,0,by rw[h0],fun _=>⟨rfl,h0⟩,by omega⟩
 ·exact⟨_,cap,rfl,fun h=>(by cases h),h1⟩
theorem bP.cell (h:bP w B e sz f v l) (hf:∀x,(f x).length=sz) {g cap i k:Nat} {x:α} {u:Value} (hv:v=.slice (some ⟨g,0,none⟩) l.length cap) (hx:l[i]? =some x) (hu:(f x)[k]? =some u):w.cell? ⟨g,i * sz+k,none⟩=some u:=by
 have hk:k < sz:=by rw[←hf x];exact(mG.1 hu).1
 rcases h.2 with ⟨h1,h0⟩ | ⟨g',cap',cur,h1,hb,hg,hc,hm,hs,ht⟩
 ·rw[hv] at h1;cases h1
 ·rw[hv] at h1;cases h1
  have hi:i < l.length:=(mG.1 hx).1;have au:i * sz+k < l.length * sz:=by
   have:(i+1) * sz≤l.length * sz:=Nat.mul_le_mul_right _ hi;rw[Nat.add_mul] at this;omega
  rw[eB _ _ _ _ _ _ hg,←sa];have:=Ej hf l i k x hx hk;rw[←ht,List.getElem?_take,af au] at this;rw[this,hu]
end
theorem MU {t e:TypeId} {sz g n cap i:Nat} (hu:prog.underlying t=some (.slice e)) (hs:(prog.info? e).map (·.size)=some sz) (hi:i < n) (w:World):
  (Instr.indexAt t (.slice (some ⟨g,0,none⟩) n cap) (.int .i64 (i:Int))).run prog w=.ok (.pointer (some ⟨g,i * sz,none⟩)) w:=by
 have h0:(0:Int)≤(i:Int)∧(i:Int) < (n:Int):=by omega
 cases hq:prog.info? e with
 | none=>simp[hq] at hs
 | some x=>
  have hz:x.size=sz:=by simpa [hq] using hs
  simp[Instr.indexAt,asIntOf,run_underlying hu,h0,sizeOf,typeInfo,hq,hz,Addr.add_lit];intro h;omega
theorem Dc {α:Type} {f:α→List Value} {sz bytes:Nat} {z:Value} {t e:TypeId} (hu:prog.underlying t=some (.slice e)) (gB:(prog.info? e).map (fun i=>(i.zero,i.size,i.bytes))=some (some z,sz,bytes)) (hz:z.cells.size=sz) (ay:0 < sz) (rh:bytes≤1000) (hf:∀x,(f x).length=sz) (h1:∀x,∀u ∈ f x,u.oneCell'=true)
  {w:World} {B:Nat} {v:Value} {l:List α} (h:bP w B e sz f v l) (hB:B≤w.heap.size) (y:α) (g c:Nat) (hc:∀k u,(f y)[k]? =some u→w.cell? ⟨g,k,none⟩=some u) (hl:l.length≤100000000000) (ty:TypeId):
  ∃v' w',(Builtin.append_ #[t,t] ty #[v,.slice (some ⟨g,0,none⟩) 1 c]).run prog w=.ok v' w'∧bP w' B e sz f v' (l++[y])∧w.grownBy w' v.ownBlock∧(v'.ownBlock=v.ownBlock∨v'.ownBlock=some w.heap.size):=by
 cases hi:prog.info? e with
 | none=>simp[hi] at gB
 | some i=>
  simp only[hi,Option.map_some,uK,nh] at gB;obtain⟨j5,kI,lZ⟩:=gB;have hb:(l.length+1) * bytes≤140737488355328:=by
   have:(l.length+1) * bytes≤100000000001 * 1000:=Nat.mul_le_mul (by omega) rh
   omega
  obtain⟨v',w',hr,h2,h3, -,h5⟩:=run_append_own_at (P:=prog) w B t ty e i z sz bytes hu hi j5 kI lZ hz ay v l.length (qP f l) h ⟨g,0,none⟩ 1 c (f y) (by rw[hf,Nat.one_mul]) (fun j u hj=>by rw[lL,ni];exact hc j u hj) (h1 y) (by unfold maxLen;omega) hb hB
  refine⟨v',w',hr, ?_,h3,h5⟩;unfold bP;rw[be,If,Lt];exact h2
theorem qH {α:Type} {f:α→List Value} {sz bytes:Nat} {z:Value} {t e:TypeId} (hu:prog.underlying t=some (.slice e)) (gB:(prog.info? e).map (fun i=>(i.zero,i.size,i.bytes))=some (some z,sz,bytes)) (hz:z.cells.size=sz) (ay:0 < sz) (rh:bytes≤1000) (hf:∀x,(f x).length=sz) (h1:∀x,∀u ∈ f x,u.oneCell'=true)
  {w:World} {ops:Array Oper} {o:Oper} {a:Act} {K:Act→World→Prop} {Q:Exit→Act→World→Prop} {E:Prop} (nD:o.guard=none) (s x:Operand)
  (ho:o.op=.call {callee:=.builtin .append,args:= #[s,x],argTypes:= #[t,t]}) {B:Nat} {v:Value} {l:List α} (h:bP w B e sz f v l) (hB:B≤w.heap.size) (y:α) (g c:Nat) (hs:a.eval s=v) (hx:a.eval x=.slice (some ⟨g,0,none⟩) 1 c) (hc:∀k u,(f y)[k]? =some u→w.cell? ⟨g,k,none⟩=some u) (hl:l.length≤1000000)
  (hK:∀v' w',bP w' B e sz f v' (l++[y])→w.grownBy w' v.ownBlock→(v'.ownBlock=v.ownBlock∨v'.ownBlock=some w.heap.size)→K (a.put o.dst v') w'):
  if Region.wanted o (yielded ops a.tmps)=true then Oper.wp prog o a w K Q else E:=by
 have hw:Region.wanted o (yielded ops a.tmps)=true:=by simp[Region.wanted,nD]
 rw[af hw];obtain⟨v',w',hr,h2,h3,h4⟩:=Dc hu gB hz ay rh hf h1 h hB y g c hc (bv hl (by decide)) o.type
 unfold Oper.wp execOp;simp only[ho,resolve,invoke,builtin,qd,Sem.run_pure,Result.andThen_ok,oh,fM,jM,hs,hx,hr];exact hK v' w' h2 h3 h4
theorem wL {α:Type} {f:α→List Value} {sz bytes:Nat} {z:Value} {t e:TypeId} (hu:prog.underlying t=some (.slice e)) (gB:(prog.info? e).map (fun i=>(i.zero,i.size,i.bytes))=some (some z,sz,bytes)) (hz:z.cells.size=sz) (ay:0 < sz) (rh:bytes≤1000) (hf:∀x,(f x).length=sz) (h1:∀x,∀u ∈ f x,u.oneCell'=true)
  {w:World} {ops:Array Oper} {rest:List Oper} {o:Oper} {a:Act} {Q:Exit→Act→World→Prop} (nD:o.guard=none) (s x:Operand)
  (ho:o.op=.call {callee:=.builtin .append,args:= #[s,x],argTypes:= #[t,t]}) {B:Nat} {v:Value} {l:List α} (h:bP w B e sz f v l) (hB:B≤w.heap.size) (y:α) (g c:Nat) (hs:a.eval s=v) (hx:a.eval x=.slice (some ⟨g,0,none⟩) 1 c) (hc:∀k u,(f y)[k]? =some u→w.cell? ⟨g,k,none⟩=some u) (hl:l.length≤1000000)
  (hK:∀v' w',bP w' B e sz f v' (l++[y])→w.grownBy w' v.ownBlock→(v'.ownBlock=v.ownBlock∨v'.ownBlock=some w.heap.size)→wpList prog ops Q rest (a.put o.dst v') w'):wpList prog ops Q (o::rest) a w:=by
 refine wpList_plain nD fun K hK'=> ?_
 obtain⟨v',w',hr,h2,h3,h4⟩:=Dc hu gB hz ay rh hf h1 h hB y g c hc (bv hl (by decide)) o.type
 unfold Oper.wp execOp;simp only[ho,resolve,invoke,builtin,qd,Sem.run_pure,Result.andThen_ok,oh,fM,jM,hs,hx,hr];exact hK' _ _ (hK v' w' h2 h3 h4)
theorem CM {B:Nat} {a w w':World} {α:Type} {e:TypeId} {sz:Nat} {f:α→List Value} {v:Value} {l:List α} (h:Below B a w) (hr:bP w B e sz f v l) (hB:B≤a.heap.size) (hg:w.grownBy w' v.ownBlock):Below B a w':=
 ⟨hg.os.trans h.os,hg.tape.trans h.tape,hg.output.trans h.output,bv h.size hg.size,fun k hk=>(hg.block k (by have:=h.size;omega) fun x=>by have:=(hr.low x.symm).1;omega).trans (h.block k hk)⟩
theorem lz {B g:Nat} {a w:World} (h:Below B a w) (hg:B≤g) (k:Nat) (v:Value):Below B a (w.setCell ⟨g,k,none⟩ v):=
 ⟨h.os,h.tape,h.output,by simpa using h.size,fun i hi=>(dh w ⟨g,k,none⟩ i v (by show i≠g;omega)).trans (h.block i hi)⟩
open Go.RowKit
def qa (s:ByteArray):Nat→Nat→Nat
 | 0,_=>s.size
 | f+1,i=>if i < s.size then (if aj s i=93 then i else if aj s i=39 then qa s f (cq s (i+1)+1) else qa s f (i+1)) else s.size
theorem Bo (s:ByteArray):∀f g i,s.size≤f+i→s.size≤g+i→qa s f i=qa s g i
 | 0,0,i,_,_=>rfl
 | 0,g+1,i,h,_=>by rw[qa,qa,ac (by omega)]
 | f+1,0,i,_,h=>by rw[qa,qa,ac (by omega)]
 | f+1,g+1,i,h1,h2=>by
  rw[qa,qa]
  by_cases hi:i < s.size
  ·have:=rV s (i+1) (by omega)
   rw[Bo s f g (cq s (i+1)+1) (by omega) (by omega),Bo s f g (i+1) (by omega) (by omega)]
  ·rw[ac hi,ac hi]
def cb (s:ByteArray) (i:Nat):Nat:=qa s s.size i
theorem Al (s:ByteArray) (i:Nat):cb s i=if i < s.size then (if aj s i=93 then i else if aj s i=39 then cb s (cq s (i+1)+1) else cb s (i+1)) else s.size:=by
 unfold cb;rw[Bo s s.size (s.size+1) i (by omega) (by omega),qa]
theorem Ca {s:ByteArray} {i:Nat} (h:s.size≤i):cb s i=s.size:=by rw[Al,ac (by omega)]
theorem BI {s:ByteArray} {i:Nat} (hb:aj s i=93):cb s i=i:=by rw[Al,af (mv (by omega)),af hb]
theorem Bm {s:ByteArray} {i:Nat} (hb:aj s i=39):cb s i=cb s (cq s (i+1)+1):=by rw[Al,af (mv (by omega)),ac (by omega),af hb]
theorem Bn {s:ByteArray} {i:Nat} (h:i < s.size) (hb:aj s i≠39) (hc:aj s i≠93):cb s i=cb s (i+1):=by rw[Al,af h,ac hc,ac hb]
theorem B9 {s:ByteArray} {P:Nat→Prop} (h0:∀i,s.size≤i→P i) (h1:∀i,i < s.size→aj s i≠39→aj s i≠93→P (i+1)→P i) (h2:∀i,i < s.size→aj s i=39→P (cq s (i+1)+1)→P i) (h3:∀i,aj s i=93→P i):∀f i,s.size≤f+i→P i
 | 0,i,h=>h0 i (by omega)
 | f+1,i,h=>by
  rcases cG i s.size with hi | hi
  ·by_cases hb:aj s i=39
   ·have:=rV s (i+1) (by omega)
    exact h2 i hi hb (B9 h0 h1 h2 h3 f _ (by omega))
   ·by_cases hc:aj s i=93
    ·exact h3 i hc
    ·exact h1 i hi hb hc (B9 h0 h1 h2 h3 f (i+1) (by omega))
  ·exact h0 i hi
theorem Cn (s:ByteArray) (i:Nat) (h:i≤s.size):i≤cb s i∧cb s i≤s.size:=
 B9 (P:=fun i=>i≤s.size→i≤cb s i∧cb s i≤s.size) (fun i hi h=>by rw[Ca hi];omega) (fun i hi hb hc ih h=>by rw[Bn hi hb hc];have:=ih (by omega);omega)
  (fun i hi hb ih h=>by
   rw[Bm hb];have h1:=rV s (i+1) (by omega)
   by_cases hq:cq s (i+1)+1≤s.size
   ·have:=ih hq;omega
   ·rw[Ca (by omega)];omega) (fun i hb h=>by rw[BI hb];omega) s.size i (by omega) h
def uA (b:Nat):Bool:=[61,63,38,43,45,42,47,37,40,41,60,62,44,58,36].contains b
structure Tk where
 k:Nat
 t:ByteArray
 a:Nat
def tk (s:ByteArray) (i:Nat):Nat × Nat × ByteArray:=
 if dj (aj s i)=true then (1,cZ s dB i,s.extract i (cZ s dB i))
 else if cR (aj s i)=true then (2,cZ s cR i,s.extract i (cZ s cR i))
 else if aj s i=39 then (if cq s (i+1)=s.size then (0,s.size,ByteArray.empty) else (3,cq s (i+1)+1,⟨(ct s (i+1)).toArray⟩))
 else if aj s i=91 then (if cb s (i+1)=s.size then (0,s.size,ByteArray.empty) else (4,cb s (i+1)+1,s.extract (i+1) (cb s (i+1))))
 else if aj s i=58∧aj s (i+1)=61 then (5,i+2,s.extract i (i+2))
 else if uA (aj s i)=true then (5,i+1,s.extract i (i+1))
 else (0,i,ByteArray.empty)
theorem AL {b:Nat} (h:dj b=true):65≤b∧b≤90:=nf h
theorem CS {b:Nat} (h:cR b=true):48≤b∧b≤57:=nf h
theorem yv (s:ByteArray) (i:Nat) (h:i < s.size):i≤(tk s i).2.1∧(tk s i).2.1≤s.size∧((tk s i).1≠0→i < (tk s i).2.1)∧(tk s i).1≤5:=by
 unfold tk;have hq:=rV s (i+1) (by omega)
 have hb:=Cn s (i+1) (by omega)
 split
 ·rename_i hl
  have:=mX s dB (i+1) (by omega)
  rw[nT h (by unfold dB;rw[hl];rfl)]
  refine⟨?_, ?_,fun _=> ?_, ?_⟩ <;> dsimp only <;> omega
 ·split
  ·rename_i hl
   have:=mX s cR (i+1) (by omega)
   rw[nT h hl];refine⟨?_, ?_,fun _=> ?_, ?_⟩ <;> dsimp only <;> omega
  ·split
   ·split
    ·refine⟨?_, ?_,fun h=>absurd rfl h, ?_⟩ <;> dsimp only <;> omega
    ·refine⟨?_, ?_,fun _=> ?_, ?_⟩ <;> dsimp only <;> omega
   ·split
    ·split
     ·refine⟨?_, ?_,fun h=>absurd rfl h, ?_⟩ <;> dsimp only <;> omega
     ·refine⟨?_, ?_,fun _=> ?_, ?_⟩ <;> dsimp only <;> omega
    ·split
     ·rename_i hc
      have:=mv (s:=s) (i:=i+1) (by omega)
      refine⟨?_, ?_,fun _=> ?_, ?_⟩ <;> dsimp only <;> omega
     ·split
      ·refine⟨?_, ?_,fun _=> ?_, ?_⟩ <;> dsimp only <;> omega
      ·refine⟨?_, ?_,fun h=>absurd rfl h, ?_⟩ <;> dsimp only <;> omega
def qR (s:ByteArray):Nat→Nat→List Tk→List Tk × Nat × Nat
 | 0,_,l=>(l,0,0)
 | f+1,i,l=>if cZ s dR i < s.size then (if (tk s (cZ s dR i)).1=0 then ([],2,(tk s (cZ s dR i)).2.1) else qR s f (tk s (cZ s dR i)).2.1 (l++[⟨(tk s (cZ s dR i)).1,(tk s (cZ s dR i)).2.2,cZ s dR i⟩])) else (l,0,0)
theorem D6 (s:ByteArray):∀f g i l,i≤s.size→s.size≤f+i→s.size≤g+i→qR s f i l=qR s g i l
 | 0,0,i,l,_,_,_=>rfl
 | 0,g+1,i,l,hi,h,_=>by have:=mX s dR i hi;rw[qR,qR,ac (by omega)]
 | f+1,0,i,l,hi,_,h=>by have:=mX s dR i hi;rw[qR,qR,ac (by omega)]
 | f+1,g+1,i,l,hi,h1,h2=>by
  rw[qR,qR]
  by_cases hp:cZ s dR i < s.size
  ·rw[af hp,af hp]
   by_cases hk:(tk s (cZ s dR i)).1=0
   ·rw[af hk,af hk]
   ·have h3:=yv s _ hp
    have h4:=h3.2.2.1 hk;have h5:=mX s dR i hi;rw[ac hk,ac hk];exact D6 s f g _ _ h3.2.1 (by omega) (by omega)
  ·rw[ac hp,ac hp]
def ln (s:ByteArray) (i:Nat) (l:List Tk):List Tk × Nat × Nat:=qR s s.size i l
theorem wk (s:ByteArray) (i:Nat) (l:List Tk) (h:i≤s.size):ln s i l=if cZ s dR i < s.size then (if (tk s (cZ s dR i)).1=0 then ([],2,(tk s (cZ s dR i)).2.1) else ln s (tk s (cZ s dR i)).2.1 (l++[⟨(tk s (cZ s dR i)).1,(tk s (cZ s dR i)).2.2,cZ s dR i⟩])) else (l,0,0):=by
 unfold ln;rw[D6 s s.size (s.size+1) i l h (by omega) (by omega),qR]
theorem D4 {s:ByteArray} {i:Nat} {l:List Tk} (h:i < s.size) (hb:aj s i=32):ln s i l=ln s (i+1) l:=by
 rw[wk s i l (by omega),wk s (i+1) l (by omega),nT h (by unfold dR;rw[hb];rfl)]
theorem B2 {s:ByteArray} {l:List Tk}:ln s s.size l=(l,0,0):=by
 rw[wk s _ l (aw _),ac];have:=mX s dR s.size (aw _);omega
theorem EV {s:ByteArray} {i:Nat} {l:List Tk} (h:i≤s.size):ln s i l=ln s (cZ s dR i) l:=by
 have h1:=mX s dR i h;have h2:cZ s dR (cZ s dR i)=cZ s dR i:=oL fun h=>zz h
 rw[wk s i l h,wk s _ l h1.2,h2]
theorem FZ {s:ByteArray} {i:Nat} {l:List Tk} (h:i < s.size) (hb:aj s i≠32) (hk:(tk s i).1=0):ln s i l=([],2,(tk s i).2.1):=by
 have hp:cZ s dR i=i:=oL fun _=>db hb
 rw[wk s i l (by omega),hp,af h,af hk]
theorem B0 {s:ByteArray} {i:Nat} {l:List Tk} (h:i < s.size) (hb:aj s i≠32) (hk:(tk s i).1≠0):ln s i l=ln s (tk s i).2.1 (l++[⟨(tk s i).1,(tk s i).2.2,i⟩]):=by
 have hp:cZ s dR i=i:=oL fun _=>db hb
 rw[wk s i l (by omega),hp,af h,ac hk]
theorem B1 {s:ByteArray} {P:Nat→List Tk→Prop} (h0:∀l,P s.size l) (h1:∀i l,i < s.size→aj s i=32→P (i+1) l→P i l) (h2:∀i l,i < s.size→aj s i≠32→(tk s i).1=0→P i l)
  (h3:∀i l,i < s.size→aj s i≠32→(tk s i).1≠0→P (tk s i).2.1 (l++[⟨(tk s i).1,(tk s i).2.2,i⟩])→P i l):∀f i l,i≤s.size→s.size≤f+i→P i l
 | 0,i,l,hi,h=>by rw[show i=s.size by omega];exact h0 l
 | f+1,i,l,hi,h=>by
  rcases cG i s.size with au | gD
  ·by_cases hb:aj s i=32
   ·exact h1 i l au hb (B1 h0 h1 h2 h3 f (i+1) l (by omega) (by omega))
   ·by_cases hk:(tk s i).1=0
    ·exact h2 i l au hb hk
    ·have h4:=yv s i au
     have h5:=h4.2.2.1 hk;exact h3 i l au hb hk (B1 h0 h1 h2 h3 f _ _ h4.2.1 (by omega))
  ·rw[show i=s.size by omega];exact h0 l
def gx (s:ByteArray):List Tk × Nat × Nat:=if 2000 < s.size then ([],4,0) else ln s 0 []
end Go.Proofs.YtlmnjbipfacniaaGreatDoor
