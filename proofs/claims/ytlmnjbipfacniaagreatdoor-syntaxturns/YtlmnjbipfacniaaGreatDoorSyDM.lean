/- The reader of lines: names, what is open, patterns. The read -/
import Derived.Test.YtlmnjbipfacniaaGreatDoorSyAM
import Derived.Test.YtlmnjbipfacniaaGreatDoorRtEM
import Derived.Below
import Derived.Shelf.LaysC
import Derived.Shelf.Strconv.ParseIntPublic10
import Derived.Test.YtlmnjbipfacniaaGreatDoorProg
import Derived.Test.YtlmnjbipfacniaaGreatDoorClone4M
import Derived.Test.YtlmnjbipfacniaaGreatDoorStBM
set_option maxRecDepth 100000
set_option maxHeartbeats 4000000
namespace Go.Proofs.YtlmnjbipfacniaaGreatDoor
open Go.Proofs.Tryz
open Go.RowKit
theorem yA {E:Nat} {l:List Tk} (h:(ak E 0 l).k≠0):l≠[]:=by rintro rfl;exact h rfl
theorem vP {C:SyC} {l:List Tk} {o:Nat} (w:World) (hR:Syr C w l o):Calls prog 53 #[.pointer (some ⟨C.z,0,none⟩)] w fun e w'=>fV lD C o w (dO C.E l) e w':=by
 have HA:=ab (rp w hR);have HR:=ab hR;have iR:=xn hR 0;have HS:=ab (fun w h=>rq (C:=C) (l:=l) (o:=o) w h)
 have HT:=ab (fun w=>ul 7 (ak C.E 0 l).a w)
 have HN:=ab (fun w=>qj (ak C.E 0 l).t w (by have:=iR.2.1;unfold maxLen;omega))
 have HP:=ab (fun (q:(ak C.E 0 l).k=1) w h=>un (l:=l) (o:=o) (C:=C) w h (yA (E:=C.E) (by rw[q];decide)))
 unfold dO;clear hR iR;generalize hq:ak C.E 0 l=t at *;clear hq;unfold jC at HA
 by_cases h1:t.k=1
 ·rw[af h1]
  have cf:=ab (aa HP h1);have q1:((t.k:Int) !=1)=false:=by rw[bne,Bool.not_eq_false',tp];omega
  clear HP h1
  cases hn:bp t.t
  ·rw[ac (by decide)]
   rw[hn] at HN;clear hn cf HS;show Calls _ _ _ _ fun e w'=>fV lD C o w (.error (7,t.a)) e w'
   go_enter func53,ntmps53;go_wp2_with fail;refine(aa HA).mono ?_;rintro e w2 ⟨rfl,hb2⟩;have aF:=ab (ap hb2 ((aW _ _).alloc (ax _) (.cells #[.int .i64 (t.k:Int),.string t.t,.int .i64 (t.a:Int)] 102)));clear hb2;go_wp2_with fail;refine(aa HN _).mono ?_;rintro e w3 ⟨rfl,rfl⟩;go_wp2_with fail;refine(aa HT _).mono ?_;rintro e w3 ⟨rfl,rfl⟩;unfold aC;go_wp2_with fail;exact⟨rfl,fH rfl (But.of_below (aa aF)) rfl⟩
  ·rw[af rfl]
   rw[hn] at HN;clear hn HS HT;show Calls _ _ _ _ fun e w'=>fV lD C o w (.ok (t.t,l.tail)) e w'
   go_enter func53,ntmps53;go_wp2_with fail;refine(aa HA).mono ?_;rintro e w2 ⟨rfl,hb2⟩;have aF:=ab (ap hb2 ((aW _ _).alloc (ax _) (.cells #[.int .i64 (t.k:Int),.string t.t,.int .i64 (t.a:Int)] 102)));have dY:Hid ((w2.alloc (.cells #[.int .i64 (t.k:Int),.string t.t,.int .i64 (t.a:Int)] 102)).heap[w2.heap.size]? =some (.cells #[.int .i64 (t.k:Int),.string t.t,.int .i64 (t.a:Int)] 102 (0,0))):=ab (aw rfl);have tP:Hid (w2.heap.size≠C.z):=ab (by have:=(aa HR).lt;have:=hb2.size;omega)
   clear hb2;go_wp2_with fail;refine(aa HN _).mono ?_;rintro e w3 ⟨rfl,rfl⟩;go_wp2_with fail;refine(aa cf _ ((aa HR).below (aa aF))).mono ?_;rintro e w4 ⟨rfl,hb4,hR4⟩;have cy:=hb4.row (aa tP) (aa dY);have d1:w4.cell? ⟨w2.heap.size,1,none⟩=some (.string t.t):=cr cy;have HZ:=ab (And.intro ((But.of_below (aa aF)).trans hb4) hR4);clear hb4 hR4 cy;go_wp2_with fail;go_ret;exact nI rfl (aa HZ).1 rfl (aa HZ).2
 ·rw[ac h1]
  have q1:((t.k:Int) !=1)=true:=by rw[bne,Bool.not_eq_true',pL];omega
  clear HP h1 HN HT;show Calls _ _ _ _ fun e w'=>fV lD C o w (.error (2,t.a)) e w'
  go_enter func53,ntmps53;go_wp2_with fail;refine(aa HA).mono ?_;rintro e w2 ⟨rfl,hb2⟩;have aF:=ab (ap hb2 ((aW _ _).alloc (ax _) (.cells #[.int .i64 (t.k:Int),.string t.t,.int .i64 (t.a:Int)] 102)));clear hb2;go_wp2_with fail;refine(aa HS _ ((aa HR).below (aa aF))).mono ?_;rintro e w3 ⟨rfl,hb3⟩;have aq:=ab (ap (aa aF) hb3);clear hb3;unfold aC;go_wp2_with fail;exact⟨rfl,fH rfl (But.of_below (aa aq)) rfl⟩
section
variable {C:SyC} {w w':World} {l:List Tk} {o:Nat}
theorem Syr.c2 (h:Syr C w l o):w.cell? ⟨C.z,2,none⟩=some (.int .i64 (o:Int)):=by obtain⟨xa,cap,off,h1, -⟩:=h.blk;rw[eX _ _ _ _ _ _ h1];rfl
theorem Syr.fz (h:Syr C w l o) (k:Nat):w.frozen? ⟨C.z,k,none⟩=false:=by obtain⟨xa,cap,off,h1, -⟩:=h.blk;exact cT w C.z k _ _ h1
theorem Syr.set2 (h:Syr C w l o) {x:Int} {p:Nat} (hp:x=(p:Int)):Syr C (w.setCell ⟨C.z,2,none⟩ (.int .i64 x)) l p:=by
 subst hp;obtain⟨xa,cap,off,h1,h2,h3,h4,h5⟩:=h.blk;exact h.put ((But.refl _ _).setCell 2 _) (fun t ht=>ht) (fK w C.z 2 _ _ _ h1) h2 h3 h4 h5
end
theorem Ba {C:SyC} {l:List Tk} {o:Nat} (w:World) (hR:Syr C w l o) (ho:o < 400):Calls prog 150 #[.pointer (some ⟨C.z,0,none⟩)] w fun e w'=>e=.returned (.tuple #[])∧But C.z w w'∧Syr C w' l (o+1):=by
 have c2:=hR.c2;have fz:=hR.fz 2;have HZ:Hid (But C.z w (w.setCell ⟨C.z,2,none⟩ (.int .i64 ((o:Int)+1)))∧Syr C (w.setCell ⟨C.z,2,none⟩ (.int .i64 ((o:Int)+1))) l (o+1)):=ab (⟨(But.refl _ _).setCell 2 _,hR.set2 (by omega)⟩)
 have d2:(w.setCell ⟨C.z,2,none⟩ (.int .i64 ((o:Int)+1))).cell? ⟨C.z,2,none⟩=some (.int .i64 ((o:Int)+1)):=by have:=(aa HZ).2.c2;rw[show (((o+1:Nat)):Int)=(o:Int)+1 by omega] at this;exact this
 have q:¬(400:Int) < (o:Int)+1:=by omega
 clear hR;go_enter func150,ntmps150;go_wp2_with fail;go_end0;exact⟨rfl,aa HZ⟩
theorem Bb {C:SyC} {l:List Tk} {o:Nat} (w:World) (hR:Syr C w l o) (ho:o=400):Calls prog 150 #[.pointer (some ⟨C.z,0,none⟩)] w fun e w'=>e=aC 4 (ak C.E 0 l).a∧But C.z w w':=by
 have c2:=hR.c2;have fz:=hR.fz 2;have HZ:Hid (But C.z w (w.setCell ⟨C.z,2,none⟩ (.int .i64 ((o:Int)+1)))∧Syr C (w.setCell ⟨C.z,2,none⟩ (.int .i64 ((o:Int)+1))) l (o+1)):=ab (⟨(But.refl _ _).setCell 2 _,hR.set2 (by omega)⟩)
 have q:(400:Int) < (o:Int)+1:=by omega
 have q2:o≤400:=by omega
 have HA:=ab (zR _ (aa HZ).2);have HT:=ab (fun w=>ul 4 (ak C.E 0 l).a w)
 clear hR ho;generalize (ak C.E 0 l).a=a at *;go_enter func150,ntmps150;go_wp2_with fail;refine(aa HA).mono ?_;rintro e w2 ⟨rfl,hb2⟩;have aF:=ab ((aa HZ).1.trans (But.of_below hb2));clear hb2;go_wp2_with fail;refine(aa HT _).mono ?_;rintro e w3 ⟨rfl,rfl⟩;unfold aC;go_wp2_with fail;exact⟨rfl,rfl,aa aF⟩
theorem A3 {C:SyC} {l:List Tk} {o:Nat} (w:World) (hR:Syr C w l (o+1)) (ho:o < 400):Calls prog 152 #[.pointer (some ⟨C.z,0,none⟩)] w fun e w'=>e=.returned (.tuple #[])∧But C.z w w'∧Syr C w' l o:=by
 have c2:=hR.c2;have fz:=hR.fz 2;obtain⟨p,hp⟩:∃p:Nat,p=o+1:=⟨_,rfl⟩;rw[←hp] at c2 hR;have HZ:Hid (But C.z w (w.setCell ⟨C.z,2,none⟩ (.int .i64 ((p:Int) - 1)))∧Syr C (w.setCell ⟨C.z,2,none⟩ (.int .i64 ((p:Int) - 1))) l o):=ab (⟨(But.refl _ _).setCell 2 _,hR.set2 (by omega)⟩)
 have hp1:1≤p∧p≤400:=by omega
 clear hR hp ho;go_enter func152,ntmps152;go_wp2_with fail;go_end0;exact⟨rfl,aa HZ⟩
open Go.RowKit
def sV (t:ByteArray):List Value:=[.string t]
theorem MB:(prog.info? 9).map (fun i=>(i.zero,i.size,i.bytes))=some (some (.string ⟨#[]⟩),1,16):=by kernel_rfl
theorem sV_one:∀(y:ByteArray),∀u ∈ sV y,u.oneCell'=true:=fun y u hu=>by
 have:u=.string y:=by simpa [sV] using hu
 subst this;rfl
theorem MJ {w:World} {g:Nat} {x:ByteArray} (h:w.heap[g]? =some (.cells #[.string x] 9 (0,0))):∀k u,(sV x)[k]? =some u→w.cell? ⟨g,k,none⟩=some u:=fun k u hu=>by
 rw[eX _ _ _ _ _ _ h,←hu];unfold sV;rw[show (#[Value.string x]:Array Value)=[Value.string x].toArray from rfl,List.getElem?_toArray]
def lC (B:Nat) (w:World) (N:NL):Prop:=∀X:World,(∀i,B≤i→i < w.heap.size→X.heap[i]? =w.heap[i]?)→N.In X
def namsL (B:Nat) (p:List ByteArray) (e:Ending) (w:World):Prop:=∃N:NL,e=.returned N.v∧N.l=p∧lC B w N
theorem JR {B:Nat} {w:World} {v:Value} {l:List ByteArray} (h:cc w B 9 1 sV v l) (hl:∀t ∈ l,t.size≤2000):∃N:NL,v=N.v∧N.l=l∧lC B w N:=by
 rcases h.2 with ⟨rfl,h0⟩ | ⟨g,cap,cur,rfl,hb,hg,hc,hm,hs,ht⟩
 ·obtain rfl:=kJ h0
  exact⟨⟨none,0,0,0,[]⟩,rfl,rfl,fun X _=>⟨ax _,cU _,fun h=>absurd h (by simp),fun i t ht=>by simp at ht⟩⟩
 ·refine⟨⟨some ⟨g,0,none⟩,g,0,cap,l⟩,rfl,rfl,fun X hX=>⟨hc,hm,fun _=>rfl,fun i t ht=>⟨?_,by have:=hl t (rO ht);unfold maxLen;omega⟩⟩⟩
  have lc:=h.low (k:=g) rfl;have hr:cc X B 9 1 sV (.slice (some ⟨g,0,none⟩) l.length cap) l:=h.same fun k hk=>by
   have:k=g:=by simpa [Value.ownBlock] using hk.symm
   subst this;exact hX k lc.1 lc.2
  have:=hr.cell (fun _=>rfl) (i:=i) (k:=0) (u:=.string t) rfl ht rfl
  rw[Nat.mul_one,Nat.add_zero] at this;show X.cell? ⟨g,0+i,none⟩=_;rw[oI];exact this
theorem oD {C:SyC} {w:World} {l:List Tk} {o:Nat} (h:Syr C w l o) {t:ByteArray} {r:List Tk} (hq:dO C.E l=.ok (t,r)):t.size≤2000:=by
 have:=(xn h 0).2.1;unfold dO at hq;split at hq
 ·split at hq
  ·injection hq with hq;injection hq with hq _;rw[←hq];exact this
  ·cases hq
 ·cases hq
theorem Nc {E f:Nat} {o:List ByteArray} {l:List Tk} {e:Int × Nat} (h:dO E l=.error e):iN E (f+1) o l=.error e:=by rw[iN,h];rfl
theorem LB {E f:Nat} {o:List ByteArray} {l r:List Tk} {t:ByteArray} (h:dO E l=.ok (t,r)) (ho:o.length=8):iN E (f+1) o l=.error (5,(ak E 0 l).a):=by rw[iN,h,aT,af ho]
theorem LA {E f:Nat} {o:List ByteArray} {l r:List Tk} {t:ByteArray} (h:dO E l=.ok (t,r)) (ho:o.length≠8) (hc:aM (ak E 0 r) (ah 44)=true):iN E (f+1) o l=iN E f (o++[t]) r.tail:=by rw[iN,h,aT,ac ho,af hc]
theorem LC {E f:Nat} {o:List ByteArray} {l r:List Tk} {t:ByteArray} (h:dO E l=.ok (t,r)) (ho:o.length≠8) (hc:aM (ak E 0 r) (ah 44)=false):iN E (f+1) o l=.ok (o++[t],r):=by rw[iN,h,aT,ac ho,ac (by rw[hc];decide)]
theorem Dl {α:Type} {B:Nat} {e:TypeId} {sz:Nat} {f:α→List Value} {v:Value} {l:List α} {w w':World} (hr:cc w B e sz f v l) (hB:B≤w.heap.size) (hg:w.grownBy w' v.ownBlock):∀k,k < B→w'.heap[k]? =w.heap[k]? :=
 fun k hk=>hg.block k (by omega) (fun e=>by have:=(hr.low e.symm).1;omega)
theorem FE {z B:Nat} {w a b:World} (h:But z w a) (hB:w.heap.size=B) (hs:a.heap.size≤b.heap.size) (hb:∀k,k < B→b.heap[k]? =a.heap[k]?) (ho:b.os=a.os∧b.tape=a.tape∧b.output=a.output):But z w b:=
 ⟨ho.1.trans h.os,ho.2.1.trans h.tape,ho.2.2.trans h.output,bJ h.size hs,fun k hk hz=>(hb k (by omega)).trans (h.block k hk hz)⟩
theorem IT {C:SyC} {l:List Tk} {od:Nat} (w:World) (hR:Syr C w l od):Calls prog 134 #[.pointer (some ⟨C.z,0,none⟩)] w fun e w'=>fV (namsL w.heap.size) C od w (oH C.E l) e w':=by
 have nD:=ab hR;obtain⟨B,hB⟩:∃B,B=w.heap.size:=⟨_,rfl⟩;rw[←hB];have aD:=ab hB;have hN:oH C.E l=iN C.E 9 [] l:=rfl;rw[hN];obtain⟨RR,bM⟩:∃RR,RR=iN C.E 9 [] l:=⟨_,rfl⟩;rw[←bM];have su:=ab bM;clear hR hB hN bM;go_enter func134,ntmps134;go_wp2_with fail;go_loopw [3] (fun v wr=>∃(o:List ByteArray) (l':List Tk) (a:Option Addr) (cap:Nat),o.length≤8∧v=.slice a o.length cap∧Hid (cc wr B 9 1 sV (.slice a o.length cap) o∧(∀t ∈ o,t.size≤2000)∧Syr C wr l' od∧But C.z w wr∧RR=iN C.E (9 - o.length) o l')) (fun v _=>9 - lenV v)
 case atStart=>exact⟨[],l,none,0,by simp,rfl,m8 _ _ _ _,(fun t ht=>by simp at ht),aa nD,But.refl _ _,aa su⟩
 case round=>
  obtain⟨o,l',a,cap,ho,rfl,HI⟩:=hrel;obtain⟨f,hf⟩:∃f,9 - o.length=f+1:=⟨8 - o.length,by omega⟩
  have hzB:C.z < B:=by rw[aa aD];exact(aa nD).lt
  have HA:=ab (zR wr (aa HI).2.2.1);have HN:=ab (fun w h=>vP (C:=C) (l:=l') (o:=od) w h)
  have HT:=ab (fun w=>ul 5 (ak C.E 0 l').a w)
  have jf:Hid (RR=iN C.E (f+1) o l'):=ab (by rw[←hf];exact(aa HI).2.2.2.2)
  obtain⟨at_,iG⟩:∃at_,at_=(ak C.E 0 l').a:=⟨_,rfl⟩;rw[←iG] at HA HT;have HAT:=ab iG;have HF:=ab hf;clear iG hf;go_wp2_with fail;refine(aa HA).mono ?_;rintro e w2 ⟨rfl,hb2⟩;have qd:=ab (aa HN w2 ((aa HI).2.2.1.below hb2));have eE:=ab (fun t r h=>oD (t:=t) (r:=r) ((aa HI).2.2.1.below hb2) h)
  have aF:=ab ((aa HI).2.2.2.1.trans (But.of_below hb2));have wD:=ab ((aa HI).1.later hb2);clear hb2 HA HN
  cases hq:dO C.E l' with
  | error er=>
   obtain⟨er,i⟩:=er;have HE:Hid (RR=.error (er,i)):=ab (by rw[aa jf];exact Nc hq)
   rw[hq] at qd;clear hq eE jf HT;go_wp2_with fail;refine(aa qd).mono ?_;intro e w3 hp;obtain⟨hb3,rfl⟩:=dB hp rfl;have aq:=ab ((aa aF).trans hb3);clear hp hb3;unfold aC;go_wp2_with fail;exact⟨rfl,fH (aa HE) (aa aq) rfl⟩
  | ok x=>
   obtain⟨t,r⟩:=x;have pV:=aa eE t r hq;have HQ:=ab hq;rw[hq] at qd;clear hq eE;go_wp2_with fail;refine(aa qd).mono ?_;intro e w3 hp;obtain⟨hb3,rfl,hR3⟩:=dC hp rfl;have aq:=ab ((aa aF).trans hb3);have HRW3:=ab ((aa wD).same fun k hk=>hb3.block k ((aa wD).low hk).2 (by have:=((aa wD).low hk).1;omega))
   have qb:=ab hR3;clear hp hb3 hR3 qd wD aF
   by_cases h8:o.length=8
   ·have HE:Hid (RR=.error (5,at_)):=ab (by rw[aa jf,aa HAT];exact LB (aa HQ) h8)
    have q8:((o.length:Int)==8)=true:=bt;clear h8 jf HQ;go_wp2_with fail;refine(aa HT _).mono ?_;rintro e w4 ⟨rfl,rfl⟩;unfold aC;go_wp2_with fail;exact⟨rfl,fH (aa HE) (aa aq) rfl⟩
   ·have q8:((o.length:Int)==8)=false:=bn
    have bz:Below w3.heap.size w3 (w3.alloc (.cells #[.string t] 9)):=ba _;have eA:=ab ((aa HRW3).later bz);have si:B≤w3.heap.size:=by have:=(aa aq).size;rw[aa aD];exact this
    have lr:Hid (B≤(w3.alloc (.cells #[.string t] 9)).heap.size):=ab (by rw[eu];omega)
    have uf:=ab (MJ (x:=t) (show (w3.alloc (.cells #[.string t] 9)).heap[w3.heap.size]? =some (.cells #[.string t] 9 (0,0)) from aw rfl));have HAF:Hid (∀w6,(w3.alloc (.cells #[.string t] 9)).grownBy w6 (Value.slice a o.length cap).ownBlock→Syr C w6 r od∧But C.z w w6):=ab (fun w6 hg=>by
     have ho:=Dl (aa eA) (aa lr) hg;exact⟨((aa qb).below bz).old (aa nD) (aa aD).symm ho,FE ((aa aq).trans (But.of_below bz)) (aa aD).symm hg.size ho ⟨hg.os,hg.tape,hg.output⟩⟩)
    have hol:o.length≤1000000:=by omega
    have H8:=ab h8;clear bz h8;have gM:=ab (fun w h hs=>pq (C:=C) (l:=r) (o:=od) (ah 44) w h hs)
    have pZ:=ab (fun w h hs=>pr (C:=C) (l:=r) (o:=od) (ah 44) w h hs)
    unfold ah at gM pZ;go_wp2_with (first
     | (at_builtin;refine xP underlying28 MB rfl (by decide) (by decide) (fun _=>rfl) sV_one rfl _ _ rfl (aa eA) (aa lr) t w3.heap.size 1 rfl rfl (aa uf) hol ?_;intro v6 w6 aV bS dX;have dQ:=ab (aa HAF w6 bS);have HR6:=ab aV;clear bS dX aV HAF uf)
     | fail)
    obtain⟨a6,cap6,eg, -, -⟩:=(aa HR6).len;subst eg;have cM:(o++[t]).length=o.length+1:=by simp
    rw[cM] at HR6 ⊢;have HSZ6:Hid (∀x ∈ o++[t],x.size≤2000):=ab (fun x hx=>by
     rcases rR.1 hx with h | h
     ·exact(aa HI).2.1 x h
     ·have:x=t:=by simpa using h
      subst this;exact pV)
    cases hc:aM (ak C.E 0 r) ⟨#[44]⟩
    ·have HE:Hid (RR=.ok (o++[t],r)):=ab (by rw[aa jf];exact LC (aa HQ) (aa H8) hc)
     refine(aa pZ w6 (aa dQ).1 hc).mono ?_;rintro e w7 ⟨rfl,hb7⟩;obtain⟨M,hM1,hM2,hM3⟩:=JR ((aa HR6).later hb7) (aa HSZ6);have HZ:Hid (Syr C w7 r od∧But C.z w w7∧Value.slice a6 (o.length+1) cap6=M.v∧M.l=o++[t]∧lC B w7 M):=ab (⟨(aa dQ).1.below hb7,(aa dQ).2.trans (But.of_below hb7),hM1,hM2,hM3⟩);clear hb7 hc hM1 hM2 hM3 pZ gM cM;go_wp2_with fail;go_ret;exact nI (aa HE) (aa HZ).2.1 ⟨M,aJ Ending.returned (aa HZ).2.2.1,(aa HZ).2.2.2⟩ (aa HZ).1
    ·have HE:Hid (RR=iN C.E f (o++[t]) r.tail):=ab (by rw[aa jf];exact LA (aa HQ) (aa H8) hc)
     refine(aa gM w6 (aa dQ).1 hc).mono ?_;rintro e w7 ⟨rfl,hb7,hR7⟩;have HZ:Hid (cc w7 B 9 1 sV (.slice a6 (o.length+1) cap6) (o++[t])∧Syr C w7 r.tail od∧But C.z w w7):=ab (⟨(aa HR6).same fun k hk=>hb7.block k ((aa HR6).low hk).2 (by have:=((aa HR6).low hk).1;omega),hR7,(aa dQ).2.trans hb7⟩)
     clear hb7 hR7 hc pZ gM;go_wp2_with fail;have hF:=aa HF;have h8:=aa H8;exact⟨⟨o++[t],r.tail,a6,cap6,by rw[cM];omega,by rw[cM],by rw[cM];exact(aa HZ).1,aa HSZ6,(aa HZ).2.1,(aa HZ).2.2,by rw[aa HE,cM,show 9 - (o.length+1)=f by omega]⟩,by show 9 - (o.length+1) < 9 - o.length;omega⟩
end Go.Proofs.YtlmnjbipfacniaaGreatDoor
namespace Go.Proofs
open Go.Shelf Go.RowKit Go.Lib
def Tryz.laysC174_ren:Go.Shelf.Ren:=⟨fun | 174=>192 | 247=>198 | 245=>199 | 287=>204 | 279=>205 | 280=>206 | 281=>207 | 282=>208 | 321=>209 | 322=>210 | 316=>133 | 171=>212 | 205=>211 | 243=>213 | 246=>144 | 283=>160 | 284=>161 | 285=>162 | 286=>163 | 129=>172 | 317=>171 | 318=>173 | 319=>174 | 320=>175 | 337=>181 | 338=>182 | n=>n,fun | 9=>9 | 3=>3 | 2=>2 | 75=>135 | 85=>219 | 4=>4 | 167=>223 | 5=>5 | 53=>187 | 175=>224 | 46=>190 | 168=>226 | 37=>48 | 0=>0 | 210=>231 | 21=>21 | 127=>167 | 145=>235 | 143=>233 | 171=>192 | 173=>195 | 212=>203 | 51=>199 | 20=>20 | 213=>204 | 232=>215 | 233=>216 | 80=>106 | n=>n,fun | 15=>8 | 16=>9 | 17=>3 | 18=>6 | 19=>7 | n=>n⟩
theorem Tryz.laysC174:Go.Proofs.LaysC.n174 Tryz.prog Tryz.laysC174_ren:={
 mixed:=by kernel_rfl
 f129:=Tryz.func172.trans (congrArg some (by kernel_rfl))
 f171:=Tryz.func212.trans (congrArg some (by kernel_rfl))
 f174:=Tryz.func192.trans (congrArg some (by kernel_rfl))
 f205:=Tryz.func211.trans (congrArg some (by kernel_rfl))
 f243:=Tryz.func213.trans (congrArg some (by kernel_rfl))
 f245:=Tryz.func199.trans (congrArg some (by kernel_rfl))
 f246:=Tryz.func144.trans (congrArg some (by kernel_rfl))
 f247:=Tryz.func198.trans (congrArg some (by kernel_rfl))
 f279:=Tryz.func205.trans (congrArg some (by kernel_rfl))
 f280:=Tryz.func206.trans (congrArg some (by kernel_rfl))
 f281:=Tryz.func207.trans (congrArg some (by kernel_rfl))
 f282:=Tryz.func208.trans (congrArg some (by kernel_rfl))
 f283:=Tryz.func160.trans (congrArg some (by kernel_rfl))
 f284:=Tryz.func161.trans (congrArg some (by kernel_rfl))
 f285:=Tryz.func162.trans (congrArg some (by kernel_rfl))
 f286:=Tryz.func163.trans (congrArg some (by kernel_rfl))
 f287:=Tryz.func204.trans (congrArg some (by kernel_rfl))
 f316:=Tryz.func133.trans (congrArg some (by kernel_rfl))
 f317:=Tryz.func171.trans (congrArg some (by kernel_rfl))
 f318:=Tryz.func173.trans (congrArg some (by kernel_rfl))
 f319:=Tryz.func174.trans (congrArg some (by kernel_rfl))
 f320:=Tryz.func175.trans (congrArg some (by kernel_rfl))
 f321:=Tryz.func209.trans (congrArg some (by kernel_rfl))
 f322:=Tryz.func210.trans (congrArg some (by kernel_rfl))
 f337:=Tryz.func181.trans (congrArg some (by kernel_rfl))
 f338:=Tryz.func182.trans (congrArg some (by kernel_rfl))
 t0:=Tryz.underlying0
 a0:=Tryz.isAgg0
 z0:=Tryz.sizeOf0
 v0:=Tryz.zeroValue0
 t2:=Tryz.underlying2
 a2:=Tryz.isAgg2
 z2:=Tryz.sizeOf2
 v2:=Tryz.zeroValue2
 t3:=Tryz.underlying3
 a3:=Tryz.isAgg3
 z3:=Tryz.sizeOf3
 v3:=Tryz.zeroValue3
 t4:=Tryz.underlying4
 a4:=Tryz.isAgg4
 z4:=Tryz.sizeOf4
 v4:=Tryz.zeroValue4
 t5:=Tryz.underlying5
 a5:=Tryz.isAgg5
 z5:=Tryz.sizeOf5
 v5:=Tryz.zeroValue5
 t9:=Tryz.underlying9
 a9:=Tryz.isAgg9
 z9:=Tryz.sizeOf9
 v9:=Tryz.zeroValue9
 t20:=Tryz.underlying20
 a20:=Tryz.isAgg20
 z20:=Tryz.sizeOf20
 v20:=Tryz.zeroValue20
 t21:=Tryz.underlying21
 a21:=Tryz.isAgg21
 z21:=Tryz.sizeOf21
 v21:=Tryz.zeroValue21
 t37:=Tryz.underlying48
 a37:=Tryz.isAgg48
 z37:=Tryz.sizeOf48
 v37:=Tryz.zeroValue48
 t46:=Tryz.underlying190
 a46:=Tryz.isAgg190
 z46:=Tryz.sizeOf190
 v46:=Tryz.zeroValue190
 t51:=Tryz.underlying199
 a51:=Tryz.isAgg199
 z51:=Tryz.sizeOf199
 v51:=Tryz.zeroValue199
 t53:=Tryz.underlying187
 a53:=Tryz.isAgg187
 z53:=Tryz.sizeOf187
 v53:=Tryz.zeroValue187
 t75:=Tryz.underlying135
 a75:=Tryz.isAgg135
 z75:=Tryz.sizeOf135
 v75:=Tryz.zeroValue135
 t85:=Tryz.underlying219
 a85:=Tryz.isAgg219
 z85:=Tryz.sizeOf219
 v85:=Tryz.zeroValue219
 t127:=Tryz.underlying167
 a127:=Tryz.isAgg167
 z127:=Tryz.sizeOf167
 v127:=Tryz.zeroValue167
 t143:=Tryz.underlying233
 a143:=Tryz.isAgg233
 z143:=Tryz.sizeOf233
 v143:=Tryz.zeroValue233
 t145:=Tryz.underlying235
 a145:=Tryz.isAgg235
 z145:=Tryz.sizeOf235
 v145:=Tryz.zeroValue235
 t167:=Tryz.underlying223
 a167:=Tryz.isAgg223
 z167:=Tryz.sizeOf223
 v167:=Tryz.zeroValue223
 t168:=Tryz.underlying226
 a168:=Tryz.isAgg226
 z168:=Tryz.sizeOf226
 v168:=Tryz.zeroValue226
 t171:=Tryz.underlying192
 a171:=Tryz.isAgg192
 z171:=Tryz.sizeOf192
 v171:=Tryz.zeroValue192
 t173:=Tryz.underlying195
 a173:=Tryz.isAgg195
 z173:=Tryz.sizeOf195
 v173:=Tryz.zeroValue195
 t175:=Tryz.underlying224
 a175:=Tryz.isAgg224
 z175:=Tryz.sizeOf224
 v175:=Tryz.zeroValue224
 t210:=Tryz.underlying231
 a210:=Tryz.isAgg231
 z210:=Tryz.sizeOf231
 v210:=Tryz.zeroValue231
 t212:=Tryz.underlying203
 a212:=Tryz.isAgg203
 z212:=Tryz.sizeOf203
 v212:=Tryz.zeroValue203
 t213:=Tryz.underlying204
 a213:=Tryz.isAgg204
 z213:=Tryz.sizeOf204
 t232:=Tryz.underlying215
 a232:=Tryz.isAgg215
 z232:=Tryz.sizeOf215
 v232:=Tryz.zeroValue215
 t233:=Tryz.underlying216
 a233:=Tryz.isAgg216
 z233:=Tryz.sizeOf216
 v233:=Tryz.zeroValue216
 g15:=by kernel_rfl
 g16:=by kernel_rfl
 g17:=by kernel_rfl
 g18:=by kernel_rfl
 g19:=by kernel_rfl
 t80:=Tryz.underlying106
 a80:=Tryz.isAgg106
 z80:=Tryz.sizeOf106
 v80:=Tryz.zeroValue106
 i0:=by kernel_rfl
 i2:=by kernel_rfl
 i3:=by kernel_rfl
 i4:=by kernel_rfl
 i5:=by kernel_rfl
 i9:=by kernel_rfl
 i20:=by kernel_rfl
 i21:=by kernel_rfl
 i37:=by kernel_rfl
 i46:=by kernel_rfl
 i51:=by kernel_rfl
 i53:=by kernel_rfl
 i75:=by kernel_rfl
 i80:=by kernel_rfl
 i85:=by kernel_rfl
 i127:=by kernel_rfl
 i143:=by kernel_rfl
 i145:=by kernel_rfl
 i167:=by kernel_rfl
 i168:=by kernel_rfl
 i171:=by kernel_rfl
 i173:=by kernel_rfl
 i175:=by kernel_rfl
 i210:=by kernel_rfl
 i212:=by kernel_rfl
 i232:=by kernel_rfl
 i233:=by kernel_rfl
 m15:=by kernel_rfl
 m16:=by kernel_rfl
 m17:=by kernel_rfl
 m18:=by kernel_rfl
 m19:=by kernel_rfl
 c0:=by kernel_rfl
 c2:=by kernel_rfl
 c3:=by kernel_rfl
 c4:=by kernel_rfl
 c5:=by kernel_rfl
 c9:=by kernel_rfl
 c20:=by kernel_rfl
 c21:=by kernel_rfl
 c37:=by kernel_rfl
 c46:=by kernel_rfl
 c51:=by kernel_rfl
 c53:=by kernel_rfl
 c75:=by kernel_rfl
 c80:=by kernel_rfl
 c85:=by kernel_rfl
 c127:=by kernel_rfl
 c143:=by kernel_rfl
 c145:=by kernel_rfl
 c167:=by kernel_rfl
 c168:=by kernel_rfl
 c171:=by kernel_rfl
 c173:=by kernel_rfl
 c175:=by kernel_rfl
 c210:=by kernel_rfl
 c212:=by kernel_rfl
 c213:=by kernel_rfl
 c232:=by kernel_rfl
 c233:=by kernel_rfl}
theorem Tryz.strconv_ParseInt_10_at64_ok (s:ByteArray) (hmax:s.size≤9223372036854775806) (v:Int) (h:Lib.parseIntB 64 s.data.toList=.ok v) (w:World):
  Calls Tryz.prog 192 #[.string s,.int .i64 10,.int .i64 64] w fun e w'=>e=.returned (.tuple #[.int .i64 v,.nilIface])∧(w'=w∨∃t,w'=Lib.bytesWorld w 5 t):=Any.strconv_ParseInt_10_at64_ok Tryz.laysC174 s hmax v h w
theorem Tryz.strconv_ParseInt_10_at64_range (s:ByteArray) (hlim:s.size≤281474976710656) (h:Lib.parseIntB 64 s.data.toList=.range) (ev:Value) (w:World) (hv:w.cell? ⟨9,0,none⟩=some ev) (hev:ev=.nilIface∨∃te pe,ev=.iface te pe):
  Calls Tryz.prog 192 #[.string s,.int .i64 10,.int .i64 64] w fun e w'=>∃N,e=.returned (.tuple #[.int .i64 (Lib.intSat 64 s.data.toList),.iface 226 (.pointer (some ⟨N,0,none⟩))])∧w.heap.size≤N∧w'.heap[N]? =some (.cells #[.string ⟨#[80,97,114,115,101,73,110,116]⟩,.string s,ev] 231 (0,0))∧Below w.heap.size w w':=Any.strconv_ParseInt_10_at64_range Tryz.laysC174 s hlim h ev w hv hev
end Go.Proofs
namespace Go.Proofs.YtlmnjbipfacniaaGreatDoor
open Go.Proofs.Tryz
open Go.RowKit
structure SyEnv (C:SyC) (w:World):Prop where
 sh:dI w
 shx:gP w
 sh0:w.cell? ⟨0,1,none⟩=some (.int .i64 0)
 er:∃te pe,w.cell? ⟨9,0,none⟩=some (.iface te pe)
 z1:C.z≠1
 z2:C.z≠0
 z3:C.z≠9
theorem vU {z g o:Nat} {w w':World} {v:Value} (hb:But z w w') (h:w.cell? ⟨g,o,none⟩=some v) (hz:z≠g):w'.cell? ⟨g,o,none⟩=some v:=by
 have hg:=hb.block g (de _ _ h) (fun e=>hz e.symm)
 rw[←h];unfold World.cell?;rw[hg]
theorem SyEnv.but {C:SyC} {w w':World} (h:SyEnv C w) (hb:But C.z w w'):SyEnv C w':=by
 refine⟨h.sh.but hb h.z1,fun K h1 h2=> ?_,vU hb h.sh0 h.z2, ?_,h.z1,h.z2,h.z3⟩
 ·obtain⟨a,b,c,d,e⟩:=h.shx K h1 h2
  exact⟨vU hb a h.z2,vU hb b h.z2,vU hb c h.z2,vU hb d h.z2,vU hb e h.z2⟩
 ·obtain⟨te,pe,q⟩:=h.er
  exact⟨te,pe,vU hb q h.z3⟩
theorem SyEnv.below {C:SyC} {w w':World} (h:SyEnv C w) (hb:Below w.heap.size w w'):SyEnv C w':=h.but (But.of_below hb)
theorem C1:∀(l:List UInt8) (acc:Nat),(∀b ∈ l,48≤b.toNat∧b.toNat≤57)→acc≤18446744073709551615→∃v,v=l.foldl (fun n (b:UInt8)=>10 * n+(b.toNat - 48)) acc∧((v≤18446744073709551615∧Lib.parseUintM 18446744073709551615 acc l=.ok v)∨(18446744073709551615 < v∧Lib.parseUintM 18446744073709551615 acc l=.range))
 | [],acc,_,ha=>⟨acc,rfl,.inl ⟨ha,rfl⟩⟩
 | c::r,acc,h,ha=>by
  have hc:=h c uU;have grow:∀(l:List UInt8) (a:Nat),a≤l.foldl (fun n (b:UInt8)=>10 * n+(b.toNat - 48)) a:=fun l=>by
   induction l with
   | nil=>exact fun a=>ax _
   | cons x l ih=>exact fun a=>bJ (by omega) (ih (10 * a+(x.toNat - 48)))
  refine⟨_,rfl, ?_⟩;rw[Lib.parseUintM,af hc,List.foldl_cons,show 10 * acc+(c.toNat - 48)=acc * 10+(c.toNat - 48) by omega]
  have hg:=grow r (acc * 10+(c.toNat - 48))
  by_cases h1:1844674407370955162≤acc
  ·rw[af h1]
   exact .inr ⟨by omega,rfl⟩
  ·rw[ac h1]
   by_cases h2:18446744073709551615 < acc * 10+(c.toNat - 48)
   ·rw[af h2]
    exact .inr ⟨by omega,rfl⟩
   ·rw[ac h2]
    obtain⟨v,rfl,hv⟩:=C1 r (acc * 10+(c.toNat - 48)) (fun b hb=>h b (lY _ hb)) (by omega)
    exact hv
theorem Jq {t:ByteArray} (h0:t.size≠0) (hd:∀b ∈ t.data.toList,48≤b.toNat∧b.toNat≤57):(nT t≤9223372036854775807→Lib.parseIntB 64 t.data.toList=.ok (nT t:Int))∧(9223372036854775807 < nT t→Lib.parseIntB 64 t.data.toList=.range):=by
 have hl:t.data.toList≠[]:=fun e=>h0 (by have:=aJ List.length e;simpa using this)
 obtain⟨c,r,hcr⟩:∃c r,t.data.toList=c::r:=by
  cases hq:t.data.toList with
  | nil=>exact absurd hq hl
  | cons c r=>exact⟨c,r,rfl⟩
 have hc:=hd c (by rw[hcr];exact uU)
 obtain⟨v,hv,hu⟩:=C1 t.data.toList 0 hd (by decide)
 have hdv:nT t=v:=by unfold nT;rw[m7];exact hv.symm
 rw[hdv];have e:Lib.parseIntB 64 t.data.toList=match Lib.parseUintM 18446744073709551615 0 t.data.toList with | .syntax=>.syntax | .range=>.range | .ok u=>if 9223372036854775808≤u then .range else .ok (u:Int):=by
  rw[hcr,Lib.parseIntB];have n1:¬c.toNat=43:=by omega
  have n2:¬c.toNat=45:=by omega
  simp only[n1,n2,or_self,if_false,Lib.parseUintB,reduceCtorEq,not_false_eq_true,true_and,false_and];rfl
 rw[e];rcases hu with ⟨h1,h2⟩ | ⟨h1,h2⟩
 ·rw[h2]
  refine⟨fun q=> ?_,fun q=> ?_⟩
  ·show (if 9223372036854775808≤v then _ else _)=_
   rw[ac (by omega)]
  ·show (if 9223372036854775808≤v then _ else _)=_
   rw[af (by omega)]
 ·rw[h2]
  exact⟨fun q=>by omega,fun _=>rfl⟩
theorem LJ {w:World} {b n:Nat} {f:ByteArray→Option Int} (hM:MI w b n f) (s:ByteArray) (hs:s.size≤maxLen):(Instr.lookup 82 (.map (some b)) (.string s) false).run prog w=.ok (.int .i64 ((f s).getD 0)) w:=by
 obtain⟨D,dX,h5⟩:=hM;obtain⟨c,AG,iG, -⟩:=dX.lookup_int (Maps.string_keyed underlying9) underlying82 underlying3 (KG _) (Eu hs);have e:c=(f s).getD 0:=by
  cases hf:f s with
  | none=>
   have h:=(h5 s).1;rw[hf] at h;rw[Maps.atKey_of_not_has h] at iG;injection iG with iG;injection iG with _ iG
   exact iG.symm
  | some x=>
   rw[(h5 s).2 x hf] at iG;injection iG with iG;injection iG with _ iG
   exact iG.symm
 rw[←e];exact AG
theorem Md (t:ByteArray):(wk t).getD 0=(gT t:Int):=by
 unfold wk;split
 ·rename_i h;rw[h];rfl
 ·rfl
theorem Cr (t:ByteArray):gT t=0∨(8≤gT t∧gT t≤13):=by
 unfold gT
 (repeat' split) <;> omega
theorem lvl_at {C:SyC} {w:World} (h:SyEnv C w) (t:ByteArray):w.cell? ⟨0,gT t * 5+1,none⟩=some (.int .i64 (pF (gT t):Int)):=by
 rcases Cr t with q | ⟨q1,q2⟩
 ·rw[q];exact h.sh0
 ·have:=(h.shx (gT t) (by omega) q2).2.1
  rw[this];have e:bB (gT t:Int)=(pF (gT t):Int):=by
   obtain⟨k,hk⟩:∃k,k=gT t:=⟨_,rfl⟩;rw[←hk] at q1 q2 ⊢;have:k=8∨k=9∨k=10∨k=11∨k=12∨k=13:=by omega
   rcases this with rfl | rfl | rfl | rfl | rfl | rfl <;> decide
  rw[e]
theorem JH {C:SyC} {l:List Tk} {o:Nat} (lv:Nat) (w:World) (hR:Syr C w l o) (hE:SyEnv C w):Calls prog 169 #[.pointer (some ⟨C.z,0,none⟩),.int .i64 (lv:Int)] w fun e w'=>e=.returned (.int .i64 (gF lv (ak C.E 0 l):Int))∧Below w.heap.size w w':=by
 have HA:=ab (rp w hR);have iR:=xn hR 0;have HR:=ab hR;have HE:=ab hE;clear hR hE;generalize ak C.E 0 l=t at *;have HKR:Hid (gF lv t=if t.k=5∧pF (gT t.t)=lv then gT t.t else 0):=ab (rfl);generalize gF lv t=kr at *;unfold jC at HA;go_enter func169,ntmps169;go_wp2_with fail;refine(aa HA).mono ?_;rintro e w2 ⟨rfl,hb2⟩;have hb3:=ap hb2 ((aW _ _).alloc (ax _) (.cells #[.int .i64 (t.k:Int),.string t.t,.int .i64 (t.a:Int)] 102));have hR3:=(aa HR).below hb3;have hM3:=hR3.map;have c3:(w2.alloc (.cells #[.int .i64 (t.k:Int),.string t.t,.int .i64 (t.a:Int)] 102)).cell? ⟨C.z,3,none⟩=some (.map (some C.bb)):=by obtain⟨xa,cap,off,h1, -⟩:=hR3.blk;rw[eX _ _ _ _ _ _ h1];rfl
 have hlk:=fun k=>LJ (hM3.below (show ((w2.alloc (.cells #[.int .i64 (t.k:Int),.string t.t,.int .i64 (t.a:Int)] 102)).drewN k).heap[C.bb]? =_ from by rw[World.heap_drewN])) t.t (by have:=iR.2.1;unfold maxLen;omega)
 rw[Md] at hlk;have hlv:=lvl_at ((aa HE).below hb3) t.t;have eI:=Cr t.t;have aq:=ab hb3;have ks:(0:Nat) < w2.heap.size:=by
  have:=de _ _ (aa HE).sh0;have:=hb2.size;omega
 have hzl:C.z < w2.heap.size:=by have:=(aa HR).lt;have:=hb2.size;omega
 clear hR3 hM3 hb2 hb3 iR HA;generalize gT t.t=kb at *;have hk14:(kb:Int) < 14:=by omega
 have dr:¬(kb:Int) < 0:=by omega
 clear eI
 by_cases h5:t.k=5
 ·have q5:((t.k:Int) !=5)=false:=by rw[bne,Bool.not_eq_false',tp];omega
  by_cases hv:pF kb=lv
  ·have eB:Hid (kr=kb):=ab (by rw[aa HKR,af ⟨h5,hv⟩])
   have qv:((pF kb:Int) !=(lv:Int))=false:=by rw[bne,Bool.not_eq_false',tp];omega
   clear h5 hv HKR;generalize pF kb=lk at *;go_wp2_with fail;go_quiet (fail);have dz:=ab (xO (aa aq) nq);go_wp2_with fail;go_ret;exact⟨by rw[aa eB];rfl,aa dz⟩
  ·have eB:Hid (kr=0):=ab (by rw[aa HKR,ac (fun q=>hv q.2)])
   have qv:((pF kb:Int) !=(lv:Int))=true:=by rw[bne,Bool.not_eq_true',pL];omega
   clear h5 hv HKR;generalize pF kb=lk at *;go_wp2_with fail;go_quiet (fail);have dz:=ab (xO (aa aq) nq);go_wp2_with fail;go_ret;exact⟨by rw[aa eB];rfl,aa dz⟩
 ·have eB:Hid (kr=0):=ab (by rw[aa HKR,ac (fun q=>h5 q.1)])
  have q5:((t.k:Int) !=5)=true:=by rw[bne,Bool.not_eq_true',pL];omega
  clear h5 HKR;go_wp2_with fail;go_quiet (fail);have dz:=ab (xO (aa aq) nq);go_wp2_with fail;go_ret;exact⟨by rw[aa eB];rfl,aa dz⟩
def intV (n:Int) (e:Ending) (_:World):Prop:=e=.returned (.int .i64 n)
theorem Df {w w':World} (h:w'=w∨∃t,w'=Lib.bytesWorld w 5 t):Below w.heap.size w w':=by
 rcases h with rfl | ⟨t,rfl⟩
 ·exact aW _ _
 ·exact Lib.bytesWorld_below w _ t
theorem C8 {C:SyC} {l:List Tk} {o:Nat} (w:World) (hR:Syr C w l o) (hE:SyEnv C w) (h2:(ak C.E 0 l).k=2):Calls prog 187 #[.pointer (some ⟨C.z,0,none⟩)] w fun e w'=>fV intV C o w (lW C.E l) e w':=by
 have HA:=ab (rp w hR);have HR:=ab hR;have HE:=ab hE;have iR:=xn hR 0;obtain⟨jL,hdg⟩:=iR.2.2.2 h2;have HS:=ab (fun w h=>rq (C:=C) (l:=l) (o:=o) w h)
 have HT:=ab (fun w=>ul 3 (ak C.E 0 l).a w)
 have HP:=ab (fun w h=>un (l:=l) (o:=o) (C:=C) w h (yA (E:=C.E) (by rw[h2];decide)))
 obtain⟨RR,bM⟩:∃RR,RR=lW C.E l:=⟨_,rfl⟩;rw[←bM];unfold lW at bM;have HQ:=ab bM;clear hR hE h2 bM;generalize ak C.E 0 l=t at *;have hpi:=Jq jL hdg;have ay:=iR.2.1;clear hdg iR;unfold jC at HA;have oQ:=fun (W:World)=>(aW W.heap.size W).alloc (ax _) (.cells #[.int .i64 (t.k:Int),.string t.t,.int .i64 (t.a:Int)] 102)
 by_cases h0:1 < t.t.size∧aj t.t 0=48
 ·have aS:Hid (RR=.error (2,t.a)):=ab (by rw[aa HQ,af h0])
  obtain⟨h01,h02⟩:=h0;have q1:(1:Int) < (t.t.size:Int):=by omega
  have kO:0 < t.t.size:=by omega
  have hb:=mY t.t 0 kO;rw[h02] at hb;clear HQ hpi HT HP h01 h02;go_enter func187,ntmps187;go_wp2_with fail;refine(aa HA).mono ?_;rintro e w2 ⟨rfl,hb2⟩;have aF:=ab (ap hb2 (oQ w2));have dY:Hid ((w2.alloc (.cells #[.int .i64 (t.k:Int),.string t.t,.int .i64 (t.a:Int)] 102)).heap[w2.heap.size]? =some (.cells #[.int .i64 (t.k:Int),.string t.t,.int .i64 (t.a:Int)] 102 (0,0))):=ab (aw rfl);have tP:Hid (w2.heap.size≠C.z):=ab (by have:=(aa HR).lt;have:=hb2.size;omega)
  clear hb2;go_wp2_with fail;refine(aa HS _ ((aa HR).below (aa aF))).mono ?_;rintro e w3 ⟨rfl,hb3⟩;have aq:=ab (ap (aa aF) hb3);clear hb3;unfold aC;go_wp2_with fail;exact⟨rfl,fH (aa aS) (But.of_below (aa aq)) rfl⟩
 ·have bQ:Hid (RR=if 9223372036854775807 < nT t.t then .error (3,t.a) else .ok ((nT t.t:Int),l.tail)):=ab (by rw[aa HQ,ac h0])
  have sv:=ab hpi;clear HQ hpi;generalize nT t.t=dv at *;rcases cX 9223372036854775807 dv with hv | hv
  ·have aS:Hid (RR=.error (3,t.a)):=ab (by rw[aa bQ,af hv])
   have HRG:=ab ((aa sv).2 hv);clear bQ sv hv HS HP
   by_cases h1:1 < t.t.size
   ·have q1:(1:Int) < (t.t.size:Int):=by omega
    have kO:0 < t.t.size:=by omega
    have hb:=mY t.t 0 kO;have q48:((aj t.t 0:Int)==48)=false:=by rw[pL];intro e;exact h0 ⟨h1,by omega⟩
    clear h0;generalize aj t.t 0=b0 at *;go_enter func187,ntmps187;go_wp2_with fail;refine(aa HA).mono ?_;rintro e w2 ⟨rfl,hb2⟩;have aF:=ab (ap hb2 (oQ w2));have dY:Hid ((w2.alloc (.cells #[.int .i64 (t.k:Int),.string t.t,.int .i64 (t.a:Int)] 102)).heap[w2.heap.size]? =some (.cells #[.int .i64 (t.k:Int),.string t.t,.int .i64 (t.a:Int)] 102 (0,0))):=ab (aw rfl);have tP:Hid (w2.heap.size≠C.z):=ab (by have:=(aa HR).lt;have:=hb2.size;omega)
    clear hb2;go_wp2_with fail;obtain⟨te,pe,tJ⟩:=((aa HE).below (aa aF)).er;refine(Tryz.strconv_ParseInt_10_at64_range t.t (by omega) (aa HRG) _ _ tJ (.inr ⟨te,pe,rfl⟩)).mono ?_
    rintro e w3 ⟨NN,rfl, -, -,hb3⟩;have aq:=ab (ap (aa aF) hb3);have dp:=am (aa dY) hb3;have d2:w3.cell? ⟨w2.heap.size,2,none⟩=some (.int .i64 (t.a:Int)):=cr dp;clear hb3 dp tJ;generalize Lib.intSat 64 t.t.data.toList=sat at *;go_wp2_with fail;refine(aa HT _).mono ?_;rintro e w4 ⟨rfl,rfl⟩;unfold aC;go_wp2_with fail;exact⟨rfl,fH (aa aS) (But.of_below (aa aq)) rfl⟩
   ·have q1:¬(1:Int) < (t.t.size:Int):=by omega
    clear h0;go_enter func187,ntmps187;go_wp2_with fail;refine(aa HA).mono ?_;rintro e w2 ⟨rfl,hb2⟩;have aF:=ab (ap hb2 (oQ w2));have dY:Hid ((w2.alloc (.cells #[.int .i64 (t.k:Int),.string t.t,.int .i64 (t.a:Int)] 102)).heap[w2.heap.size]? =some (.cells #[.int .i64 (t.k:Int),.string t.t,.int .i64 (t.a:Int)] 102 (0,0))):=ab (aw rfl);have tP:Hid (w2.heap.size≠C.z):=ab (by have:=(aa HR).lt;have:=hb2.size;omega)
    clear hb2;go_wp2_with fail;obtain⟨te,pe,tJ⟩:=((aa HE).below (aa aF)).er;refine(Tryz.strconv_ParseInt_10_at64_range t.t (by omega) (aa HRG) _ _ tJ (.inr ⟨te,pe,rfl⟩)).mono ?_
    rintro e w3 ⟨NN,rfl, -, -,hb3⟩;have aq:=ab (ap (aa aF) hb3);have dp:=am (aa dY) hb3;have d2:w3.cell? ⟨w2.heap.size,2,none⟩=some (.int .i64 (t.a:Int)):=cr dp;clear hb3 dp tJ;generalize Lib.intSat 64 t.t.data.toList=sat at *;go_wp2_with fail;refine(aa HT _).mono ?_;rintro e w4 ⟨rfl,rfl⟩;unfold aC;go_wp2_with fail;exact⟨rfl,fH (aa aS) (But.of_below (aa aq)) rfl⟩
  ·have aS:Hid (RR=.ok ((dv:Int),l.tail)):=ab (by rw[aa bQ,ac (by omega)])
   have HOK:=ab (fun w=>Tryz.strconv_ParseInt_10_at64_ok t.t (by omega) _ ((aa sv).1 hv) w)
   have hdv:(dv:Int)≤9223372036854775807:=by omega
   clear bQ sv hv HS HT
   by_cases h1:1 < t.t.size
   ·have q1:(1:Int) < (t.t.size:Int):=by omega
    have kO:0 < t.t.size:=by omega
    have hb:=mY t.t 0 kO;have q48:((aj t.t 0:Int)==48)=false:=by rw[pL];intro e;exact h0 ⟨h1,by omega⟩
    clear h0;generalize aj t.t 0=b0 at *;go_enter func187,ntmps187;go_wp2_with fail;refine(aa HA).mono ?_;rintro e w2 ⟨rfl,hb2⟩;have aF:=ab (ap hb2 (oQ w2));have dY:Hid ((w2.alloc (.cells #[.int .i64 (t.k:Int),.string t.t,.int .i64 (t.a:Int)] 102)).heap[w2.heap.size]? =some (.cells #[.int .i64 (t.k:Int),.string t.t,.int .i64 (t.a:Int)] 102 (0,0))):=ab (aw rfl);have tP:Hid (w2.heap.size≠C.z):=ab (by have:=(aa HR).lt;have:=hb2.size;omega)
    clear hb2;go_wp2_with fail;refine(aa HOK _).mono ?_;rintro e w3 ⟨rfl,hw3⟩;have hb3:=Df hw3;have aq:=ab (ap (aa aF) hb3);clear hw3 hb3;go_wp2_with fail;refine(aa HP _ ((aa HR).below (aa aq))).mono ?_;rintro e w4 ⟨rfl,hb4,hR4⟩;have HZ:=ab (And.intro ((But.of_below (aa aq)).trans hb4) hR4);clear hb4 hR4;go_wp2_with fail;go_ret;exact nI (aa aS) (aa HZ).1 rfl (aa HZ).2
   ·have q1:¬(1:Int) < (t.t.size:Int):=by omega
    clear h0;go_enter func187,ntmps187;go_wp2_with fail;refine(aa HA).mono ?_;rintro e w2 ⟨rfl,hb2⟩;have aF:=ab (ap hb2 (oQ w2));have dY:Hid ((w2.alloc (.cells #[.int .i64 (t.k:Int),.string t.t,.int .i64 (t.a:Int)] 102)).heap[w2.heap.size]? =some (.cells #[.int .i64 (t.k:Int),.string t.t,.int .i64 (t.a:Int)] 102 (0,0))):=ab (aw rfl);have tP:Hid (w2.heap.size≠C.z):=ab (by have:=(aa HR).lt;have:=hb2.size;omega)
    clear hb2;go_wp2_with fail;refine(aa HOK _).mono ?_;rintro e w3 ⟨rfl,hw3⟩;have hb3:=Df hw3;have aq:=ab (ap (aa aF) hb3);clear hw3 hb3;go_wp2_with fail;refine(aa HP _ ((aa HR).below (aa aq))).mono ?_;rintro e w4 ⟨rfl,hb4,hR4⟩;have HZ:=ab (And.intro ((But.of_below (aa aq)).trans hb4) hR4);clear hb4 hR4;go_wp2_with fail;go_ret;exact nI (aa aS) (aa HZ).1 rfl (aa HZ).2
end Go.Proofs.YtlmnjbipfacniaaGreatDoor
