/- Rows of bytes made and appended in any order: a sign, a call -/
import Derived.Test.YtlmnjbipfacniaaGreatDoorRegionInvMs
import Derived.Test.YtlmnjbipfacniaaGreatDoorLexRepLibMs
import Derived.Test.YtlmnjbipfacniaaGreatDoorQuote4Ms
import Derived.Test.YtlmnjbipfacniaaGreatDoorRtCMs
set_option maxHeartbeats 1000000
namespace Go.Proofs.YtlmnjbipfacniaaGreatDoor
open Go.Proofs.Tryz
open Go.RowKit
def Ap (w:World) (g:Nat) (b:UInt8):Prop:=w.heap[g]? =some (.cells #[.int .u8 (b.toNat:Int)] 5 (0,0))
theorem Ap.cell {w:World} {g:Nat} {b:UInt8} (h:Ap w g b):w.cell? ⟨g,0,none⟩=some (bc b):=by
 rw[eB _ _ _ _ _ _ h];rfl
theorem Ext.far {w w':World} {v v':Value} (h:Ext w w' v v') {n:Nat} (h1:some n≠v.ownBlock) (h2:n < w.heap.size):some n≠v'.ownBlock:=fun e=>by
 rcases h.lies with x | x
 ·exact h1 (e.trans x)
 ·have:=x n e.symm
  omega
section
variable {Q:Exit→Act→World→Prop}
theorem rM {o:Oper} {a:Act} {w:World} {K:Act→World→Prop} (b:UInt8) (ho:o.op=.buildSlice 48 1 #[(0,.const (.int .u8 (b.toNat:Int)))])
  (h:K (a.put o.dst (.slice (some ⟨w.heap.size,0,none⟩) 1 1)) (w.alloc (.cells #[.int .u8 (b.toNat:Int)] 5))):o.wp prog a w K Q:=by
 have gB:=xg
 cases hi:prog.info? 5 with
 | none=>simp[hi] at gB
 | some i0=>
  simp only[hi,Option.map_some,uK,nh] at gB;obtain⟨j5,kI,lZ⟩:=gB;refine wp_buildSlice (P:=prog) 48 5 1 _ ho #[.int .u8 (b.toNat:Int)] i0 (.int .u8 0) underlying48 hi j5 (by rw[kI];decide) (by rw[kI];decide) ?_ h
  rw[kI];have e0:((Array.range (1 * 1)).map fun x=>(Value.int IntKind.u8 0).cells[x % (Value.int IntKind.u8 0).cells.size]!)= #[.int .u8 0]:=by kernel_rfl
  rw[e0];simp[Instr.fill,Act.eval,Value.cells]
theorem rN {o:Oper} {a:Act} {w:World} {K:Act→World→Prop} {B:Nat} {v:Value} {l:List UInt8} {b:UInt8} {g:Nat} (sl x:Operand)
  (ho:o.op=.call {callee:=.builtin .append,args:= #[sl,x],argTypes:= #[48,48]}) (hs:a.eval sl=v) (hx:a.eval x=.slice (some ⟨g,0,none⟩) 1 1) (h:aZ w B v l) (hc:Ap w g b) (hB:B≤w.heap.size) (hl:l.length+1≤100000000)
  (hK:∀v' w',aZ w' B v' (l++[b])→Ext w w' v v'→K (a.put o.dst v') w'):o.wp prog a w K Q:=by
 obtain⟨v',w',hr,h1,h2⟩:=LI h hB b ⟨g,0,none⟩ 1 (by rw[lL];exact hc.cell) hl o.type
 unfold Oper.wp execOp;simp only[ho,resolve,invoke,builtin,qd,Sem.run_pure,Result.andThen_ok,oh,fM,jM,hs,hx,hr];exact hK v' w' h1 h2
theorem vV {o:Oper} {a:Act} {w:World} {K:Act→World→Prop} {B:Nat} {v:Value} {l:List UInt8} {s:ByteArray} (sl x:Operand)
  (ho:o.op=.call {callee:=.builtin .append,args:= #[sl,x],argTypes:= #[48,9]}) (hs:a.eval sl=v) (hx:a.eval x=.string s) (h:aZ w B v l) (hB:B≤w.heap.size) (hl:l.length+s.size≤100000000)
  (hK:∀v' w',aZ w' B v' (l++s.data.toList)→Ext w w' v v'→K (a.put o.dst v') w'):o.wp prog a w K Q:=by
 obtain⟨v',w',hr,h1,h2⟩:=Ey h hB s hl o.type;unfold Oper.wp execOp;simp only[ho,resolve,invoke,builtin,qd,Sem.run_pure,Result.andThen_ok,oh,fM,jM,hs,hx,hr];exact hK v' w' h1 h2
end
structure Chn (B:Nat) (w0:World) (v0:Value) (w:World) (v:Value) (l:List UInt8):Prop where
 row:aZ w B v l
 ext:Ext w0 w v0 v
theorem Chn.below {B:Nat} {w0 w w':World} {v0 v:Value} {l:List UInt8} (h:Chn B w0 v0 w v l) (hb:Below w.heap.size w w'):Chn B w0 v0 w' v l:=⟨h.row.later hb,h.ext.trans (Ext.below v hb)⟩
theorem Chn.next {B:Nat} {w0 w w':World} {v0 v v':Value} {l l':List UInt8} (h:Chn B w0 v0 w v l) (hr:aZ w' B v' l') (he:Ext w w' v v'):Chn B w0 v0 w' v' l':=⟨hr,h.ext.trans he⟩
def fY (w:World) (v:Value) (b:UInt8) (x:Value):Prop:=∃g,x=.slice (some ⟨g,0,none⟩) 1 1∧Ap w g b∧some g≠v.ownBlock
theorem fY.below {w w':World} {v x:Value} {b:UInt8} (h:fY w v b x) (hb:Below w.heap.size w w'):fY w' v b x:=by
 obtain⟨g,e,hr,hf⟩:=h;exact⟨g,e,an hr hb,hf⟩
theorem fY.next {w w':World} {v v' x:Value} {b:UInt8} (h:fY w v b x) (he:Ext w w' v v'):fY w' v' b x:=by
 obtain⟨g,e,hr,hf⟩:=h;exact⟨g,e,he.row hf hr,he.far hf (bC.1 hr).1⟩
theorem fY.new {B:Nat} {w:World} {v:Value} {l:List UInt8} (h:aZ w B v l) (b:UInt8):fY (w.alloc (.cells #[.int .u8 (b.toNat:Int)] 5)) v b (.slice (some ⟨w.heap.size,0,none⟩) 1 1):=
 ⟨w.heap.size,rfl,ax rfl,h.apart (aw _)⟩
open Go.RowKit
theorem gz {listed:Array Bool} {i j:Nat} (hi:i < listed.size) (h:Up (listed.setIfInBounds i true) j) (hn:¬j=i:=by decide):Up listed j:=((bR hi).1 h).resolve_left hn
theorem uo (x:Nat→Value) (e d:Nat) {v:Value} (h:¬e=d:=by decide):bS x d v e=x e:=jV h
theorem uk {listed:Array Bool} {i j e d:Nat} {x:Nat→Value} {v u:Value} (hi:i < listed.size) (H:Up listed j→x e=u) (hn:¬j=i:=by decide) (h:¬e=d:=by decide):Up (listed.setIfInBounds i true) j→bS x d v e=u:=fun q=>(uo x e d h).trans (H (gz hi q hn))
theorem uz {listed:Array Bool} {i j e f d:Nat} {x:Nat→Value} {v:Value} (hi:i < listed.size) (H:Up listed j→x e=x f) (hn:¬j=i:=by decide) (h:¬e=d:=by decide) (k:¬f=d:=by decide):Up (listed.setIfInBounds i true) j→bS x d v e=bS x d v f:=fun q=>(uo x e d h).trans ((H (gz hi q hn)).trans (uo x f d k).symm)
theorem us {listed:Array Bool} {i j e d:Nat} {x:Nat→Value} {v c:Value} {w:World} {b:UInt8} (hi:i < listed.size) (H:Up listed j→fY w c b (x e)) (hn:¬j=i:=by decide) (h:¬e=d:=by decide):Up (listed.setIfInBounds i true) j→fY w c b (bS x d v e):=fun q=>by rw[uo x e d h];exact H (gz hi q hn)
theorem ut {listed:Array Bool} {i j e d:Nat} {x:Nat→Value} {v c:Value} {w:World} {b:UInt8} (hi:i < listed.size) (H:Up listed j→fY w c b (x e)) (q:Up (listed.setIfInBounds i true) j) (hn:¬j=i:=by decide) (h:¬e=d:=by decide):fY w c b (bS x d v e):=us hi H hn h q
theorem nd {a b:Nat} (h:¬a=b:=by decide):¬a=b:=h
theorem fp {D:List Nat} {a:Act} {x:Nat→Value} {d:Nat} {v:Value} {o:Option Nat} (h:o=some d) (h1:d ∈ D:=by decide) (h2:D.Nodup:=by decide):(fl a D x).put o v=fl a D (bS x d v):=by rw[h,lB _ _ _ _ _ h1 h2]
theorem fe {D:List Nat} {a:Act} {x:Nat→Value} {d n:Nat} {v:Value} (hs:a.tmps.size=n) (e:x d=v) (h1:d ∈ D:=by decide) (h2:D.Nodup:=by decide) (h3:d < n:=by decide):(fl a D x).eval (.tmp d)=v:=(jI D a x h1 h2 (by rw[hs];exact h3)).trans e
theorem mc {p:Nat→Prop} {a:Nat} {l:List Nat} (h:p a) (k:∀d ∈ l,p d):∀d ∈ a::l,p d:=List.forall_mem_cons.2 ⟨h,k⟩
theorem mn {p:Nat→Prop}:∀d ∈ ([]:List Nat),p d:=fun _ h=>absurd h eg
open Go.RowKit
theorem Jk:(prog.info? 27).map (·.size)=some 5:=by kernel_rfl
structure KidF (B:Nat) (w0:World) (v:Value) (r:List UInt8) (kid:Value) (M:List UInt8→Prop) (L:Array Bool) (x:Nat→Value) (w:World) (cur:Value) (l:List UInt8):Prop where
 size:L.size=8
 m:Up L 0→x 27=v
 o:Up L 1→fY w cur 40 (x 28)
 k:Up L 3→x 30=kid
 c:Up L 5→fY w cur 41 (x 32)
 st:(¬Up L 2∧¬Up L 4∧¬Up L 6∧cur=v∧l=r)∨(Up L 2∧¬Up L 4∧¬Up L 6∧x 29=cur∧l=r++[40])∨(Up L 4∧¬Up L 6∧x 31=cur∧M l)∨(Up L 6∧x 33=cur∧∃l0,M l0∧l=l0++[41])
 f:Up L 7→x 0=x 33
 s:¬Up L 7→x 0=v
 chn:Chn B w0 v w cur l
theorem C5 {ops:Array Oper} {id:Nat} {Q:Exit→Act→World→Prop} {a:Act} {w:World} {v:Value} {r:List UInt8} {B bx:Nat} {cs:Array Value} {M:List UInt8→Prop}
  (p0:cj ops 0 (.move (.tmp 0)) 27 []) (p1:cj ops 1 (.buildSlice 48 1 #[(0,.const (.int .u8 40))]) 28 []) (p2:cj ops 2 (.call {callee:=.builtin .append,args:= #[.tmp 27,.tmp 28],argTypes:= #[48,48]}) 29 [0,1])
  (p3:cj ops 3 (.load 27 (.tmp 8)) 30 []) (p4:cj ops 4 (.call {callee:=.value (.func 41),args:= #[.tmp 29,.tmp 30],argTypes:= #[48,27]}) 31 [2,3])
  (p5:cj ops 5 (.buildSlice 48 1 #[(0,.const (.int .u8 41))]) 32 []) (p6:cj ops 6 (.call {callee:=.builtin .append,args:= #[.tmp 31,.tmp 32],argTypes:= #[48,48]}) 33 [4,5]) (p7:cj ops 7 (.assign (.tmp 33)) 0 [0,1,2,3,4,5,6]) (hn:ops.size=8)
  (ay:a.tmps.size=39) (h0:a.eval (.tmp 0)=v) (h8:a.eval (.tmp 8)=.pointer (some ⟨bx,0,none⟩)) (hv:aZ w B v r) (hB:B≤w.heap.size) (hr:r.length+2≤100000000) (am:w.heap[bx]? =some (.cells cs 27 (0,0))) (jg:cs.size=5) (lY:some bx≠v.ownBlock)
  (hM:∀l,M l→l.length+1≤100000000)
  (hC:∀w1 v1,aZ w1 B v1 (r++[40])→Ext w w1 v v1→Calls prog 41 #[v1,.agg cs] w1 fun e w2=>∃v2,e=.returned v2∧∃r2,aZ w2 B v2 r2∧Ext w1 w2 v1 v2∧M r2)
  (hQ:∀x w2 v2 l2,aZ w2 B v2 (l2++[41])→M l2→Ext w w2 v v2→x 0=v2→Q .normal (fl a [27,28,29,30,31,32,33,0] x) w2):(Code.region id ops true).wp prog Q a w:=by
 refine ud (I:=fun L a' w'=>∃x cur l,a'=fl a [27,28,29,30,31,32,33,0] x∧KidF B w v r (.agg cs) M L x w' cur l) rfl ?_ ?_ ?_
 ·have hd:Below w.heap.size w w.drew:=(aV _ _).drew
  exact⟨fun d=>a.eval (.tmp d),v,r,(sW _ a).symm,by rw[hn];rfl,fun h=>absurd h cz,fun h=>absurd h cz,fun h=>absurd h cz,fun h=>absurd h cz,.inl ⟨cz,cz,cz,rfl,rfl⟩,fun h=>absurd h cz,fun _=>h0,hv.later hd,Ext.below v hd⟩
 ·rintro L a' w' i ⟨x,cur,l,rfl,H⟩ hsh hi
  have hs:=H.size;have au:i < 8:=by
   obtain⟨-,o,ho, -⟩:=ol.1 hi;have:=(bC.1 ho).1;omega
  have ag:i < L.size:=by rw[hs];exact au
  have hS:(L.setIfInBounds i true).size=8:=by simp[hs]
  have cw:B≤w'.heap.size:=bv hB H.chn.ext.grown.size;rcases (show i=0∨i=1∨i=2∨i=3∨i=4∨i=5∨i=6∨i=7 by omega) with rfl | rfl | rfl | rfl | rfl | rfl | rfl | rfl
  ·obtain⟨hu,hd⟩:=cD p0 hi
   refine cF p0 fun o ho aM=>ux ho ?_
   refine⟨bS x 27 v,cur,l,by rw[aM,(jI [27,28,29,30,31,32,33,0] a x (d:=0) (by decide) (by decide) (by rw[ay];decide)),H.s (fun q=>hu (fv p7 hsh q 0 (by decide))),lB _ _ _ _ _ (by decide) (by decide)],hS,fun _=>cy _ _ _,us ag H.o,uk ag H.k,us ag H.c, ?_,uz ag H.f,fun h=> ?_,H.chn⟩
   ·simpa only[bR ag,(nd:¬2=0),(nd:¬4=0),(nd:¬6=0),eh,jV (x:=x) (v:=v) (show 29≠27 by decide),jV (x:=x) (v:=v) (show 31≠27 by decide),jV (x:=x) (v:=v) (show 33≠27 by decide)] using H.st
   ·rw[jV (by decide)];exact H.s fun q=>h ((bR ag).2 (.inr q))
  ·obtain⟨hu,hd⟩:=cD p1 hi
   refine cF p1 fun o ho aM=>rM 40 ho ?_
   have hb:Below w'.heap.size w' (w'.alloc (.cells #[.int .u8 (((40:UInt8).toNat:Nat):Int)] 5)):=ba _;refine⟨bS x 28 (.slice (some ⟨w'.heap.size,0,none⟩) 1 1),cur,l,fp aM,hS,uk ag H.m,fun _=> ?_,uk ag H.k,fun h=>(ut ag H.c h).below hb, ?_,uz ag H.f,fun h=> ?_,H.chn.below hb⟩
   ·rw[cy];exact fY.new H.chn.row 40
   ·simpa only[bR ag,(nd:¬2=1),(nd:¬4=1),(nd:¬6=1),eh,uo x 29 28,uo x 31 28,uo x 33 28] using H.st
   ·rw[jV (by decide)];exact H.s fun q=>h ((bR ag).2 (.inr q))
  ·obtain⟨hu,hd⟩:=cD p2 hi
   rcases H.st with ⟨s2,s4,s6,rfl,rfl⟩ | ⟨s2, -⟩ | ⟨s4,s6, -⟩ | ⟨s6, -⟩
   ·obtain⟨g,hg,aS,tI⟩:=H.o (hd 1 (by decide))
    refine cF p2 fun o ho aM=>rN (.tmp 27) (.tmp 28) ho (fe ay (H.m (hd 0 (by decide)))) (fe ay (hg)) H.chn.row aS cw (by omega) ?_
    intro v' w2 hb2 he2;refine⟨bS x 29 v',v',_,fp aM,hS,uk ag H.m,fun h=>(ut ag H.o h).next he2,uk ag H.k,fun h=>(ut ag H.c h).next he2,.inr (.inl ⟨(bR ag).2 (.inl rfl),fun h=>s4 (gz ag h),fun h=>s6 (gz ag h),cy _ _ _,rfl⟩),uz ag H.f,fun h=> ?_,H.chn.next hb2 he2⟩
    ·rw[jV (by decide)];exact H.s fun q=>h ((bR ag).2 (.inr q))
   ·exact absurd s2 hu
   ·exact absurd (fv p4 hsh s4 2 (by decide)) hu
   ·exact absurd (fv p4 hsh (fv p6 hsh s6 4 (by decide)) 2 (by decide)) hu
  ·obtain⟨hu,hd⟩:=cD p3 hi
   refine cF p3 fun o ho aM=>wp_load_row 27 (.tmp 8) ho bx (by rw[(kV [27,28,29,30,31,32,33,0] a x (t:=8) (by decide))];exact h8) 27 cs (0,0) _ (H.chn.ext.row lY am) underlying27 rfl (by rw[jg];exact Jk) ?_
   refine⟨bS x 30 (.agg cs),cur,l,fp aM,hS,uk ag H.m,us ag H.o,fun _=>cy _ _ _,us ag H.c, ?_,uz ag H.f,fun h=> ?_,H.chn⟩
   ·simpa only[bR ag,(nd:¬2=3),(nd:¬4=3),(nd:¬6=3),eh,uo x 29 30,uo x 31 30,uo x 33 30] using H.st
   ·rw[jV (by decide)];exact H.s fun q=>h ((bR ag).2 (.inr q))
  ·obtain⟨hu,hd⟩:=cD p4 hi
   rcases H.st with ⟨s2, -⟩ | ⟨s2,s4,s6,hx,rfl⟩ | ⟨s4, -⟩ | ⟨s6, -⟩
   ·exact absurd (hd 2 (by decide)) s2
   ·refine cF p4 fun o ho aM=>xr ho func41 rfl rfl #[cur,.agg cs] (by simp only[oh,fM,jM];rw[(jI [27,28,29,30,31,32,33,0] a x (d:=29) (by decide) (by decide) (by rw[ay];decide)),(jI [27,28,29,30,31,32,33,0] a x (d:=30) (by decide) (by decide) (by rw[ay];decide)),hx,H.k (hd 3 (by decide))]) ?_
    refine(hC w' cur H.chn.row H.chn.ext).mono ?_;rintro e w2 ⟨v2,rfl,r2,hb2,he2,oY⟩;refine⟨v2,rfl,bS x 31 v2,v2,r2,fp aM,hS,uk ag H.m,fun h=>(ut ag H.o h).next he2,uk ag H.k,fun h=>(ut ag H.c h).next he2,.inr (.inr (.inl ⟨(bR ag).2 (.inl rfl),fun h=>s6 (gz ag h),cy _ _ _,oY⟩)),uz ag H.f,fun h=> ?_,H.chn.next hb2 he2⟩
    ·rw[jV (by decide)];exact H.s fun q=>h ((bR ag).2 (.inr q))
   ·exact absurd s4 hu
   ·exact absurd (fv p6 hsh s6 4 (by decide)) hu
  ·obtain⟨hu,hd⟩:=cD p5 hi
   refine cF p5 fun o ho aM=>rM 41 ho ?_
   have hb:Below w'.heap.size w' (w'.alloc (.cells #[.int .u8 (((41:UInt8).toNat:Nat):Int)] 5)):=ba _;refine⟨bS x 32 (.slice (some ⟨w'.heap.size,0,none⟩) 1 1),cur,l,fp aM,hS,uk ag H.m,fun h=>(ut ag H.o h).below hb,uk ag H.k,fun _=> ?_, ?_,uz ag H.f,fun h=> ?_,H.chn.below hb⟩
   ·rw[cy];exact fY.new H.chn.row 41
   ·simpa only[bR ag,(nd:¬2=5),(nd:¬4=5),(nd:¬6=5),eh,uo x 29 32,uo x 31 32,uo x 33 32] using H.st
   ·rw[jV (by decide)];exact H.s fun q=>h ((bR ag).2 (.inr q))
  ·obtain⟨hu,hd⟩:=cD p6 hi
   rcases H.st with ⟨-,s4, -⟩ | ⟨-,s4, -⟩ | ⟨s4,s6,hx,hm⟩ | ⟨s6, -⟩
   ·exact absurd (hd 4 (by decide)) s4
   ·exact absurd (hd 4 (by decide)) s4
   ·obtain⟨g,hg,aS,tI⟩:=H.c (hd 5 (by decide))
    refine cF p6 fun o ho aM=>rN (.tmp 31) (.tmp 32) ho (fe ay (hx)) (fe ay (hg)) H.chn.row aS cw (hM l hm) ?_
    intro v' w2 hb2 he2;refine⟨bS x 33 v',v',_,fp aM,hS,uk ag H.m,fun h=>(ut ag H.o h).next he2,uk ag H.k,fun h=>(ut ag H.c h).next he2,.inr (.inr (.inr ⟨(bR ag).2 (.inl rfl),cy _ _ _,l,hm,rfl⟩)),fun h=>absurd (fv p7 hsh (gz ag h) 6 (by decide)) hu,fun h=> ?_,H.chn.next hb2 he2⟩
    ·rw[jV (by decide)];exact H.s fun q=>h ((bR ag).2 (.inr q))
   ·exact absurd s6 hu
  ·obtain⟨hu,hd⟩:=cD p7 hi
   refine cF p7 fun o ho aM=>uy ho ?_
   refine⟨bS x 0 (x 33),cur,l,by rw[aM,(jI [27,28,29,30,31,32,33,0] a x (d:=33) (by decide) (by decide) (by rw[ay];decide)),lB _ _ _ _ _ (by decide) (by decide)],hS,uk ag H.m,us ag H.o,uk ag H.k,us ag H.c, ?_,fun _=>by rw[cy,jV (by decide)],fun h=>absurd ((bR ag).2 (.inl rfl)) h,H.chn⟩
   ·simpa only[bR ag,(nd:¬2=7),(nd:¬4=7),(nd:¬6=7),eh,uo x 29 0,uo x 31 0,uo x 33 0] using H.st
 ·rintro L a' w' ⟨x,cur,l,rfl,H⟩ cf
  have hs:=H.size;have u0:=cE p0 cf (by omega) (by simp)
  have u1:=cE p1 cf (by omega) (by simp)
  have u2:=cE p2 cf (by omega) (by intro d hd;rcases dO.1 hd with rfl | hd;exact u0;rw[jv.1 hd];exact u1)
  have u3:=cE p3 cf (by omega) (by simp)
  have u4:=cE p4 cf (by omega) (by intro d hd;rcases dO.1 hd with rfl | hd;exact u2;rw[jv.1 hd];exact u3)
  have u5:=cE p5 cf (by omega) (by simp)
  have u6:=cE p6 cf (by omega) (by intro d hd;rcases dO.1 hd with rfl | hd;exact u4;rw[jv.1 hd];exact u5)
  have u7:=cE p7 cf (by omega) (mc u0 (mc u1 (mc u2 (mc u3 (mc u4 (mc u5 (mc u6 mn)))))))
  rcases H.st with ⟨-, -,s6, -⟩ | ⟨-, -,s6, -⟩ | ⟨-,s6, -⟩ | ⟨-,hx,l0,hm,rfl⟩
  ·exact absurd u6 s6
  ·exact absurd u6 s6
  ·exact absurd u6 s6
  ·exact hQ x w' cur l0 H.chn.row hm H.chn.ext ((H.f u7).trans hx)
end Go.Proofs.YtlmnjbipfacniaaGreatDoor
