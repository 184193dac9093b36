/- A program read: what is read of one line, and so far. A prog -/
import Derived.Test.YtlmnjbipfacniaaGreatDoorRtSameMs
import Derived.Test.YtlmnjbipfacniaaGreatDoorLsWMs
import Derived.Test.YtlmnjbipfacniaaGreatDoorSyAlMs
import Derived.Test.YtlmnjbipfacniaaGreatDoorCkEMs
import Derived.Test.YtlmnjbipfacniaaGreatDoorBxBMs
import Derived.Test.YtlmnjbipfacniaaGreatDoorSySameMs
import Derived.Test.YtlmnjbipfacniaaGreatDoorCellKMs
set_option maxRecDepth 100000
set_option maxHeartbeats 8000000
namespace Go.Proofs.YtlmnjbipfacniaaGreatDoor
open Go.Proofs.Tryz
open Go.RowKit
theorem ln_one {s:ByteArray} {w:World} {e:Ending} {w':World} (h:Af s w e w'):Below w.heap.size w w'∧∃(S:SV) (b:Bool) (er:Int) (a:Nat),e=.returned (.tuple #[S.v,.bool b,cY er a])∧
  ((jb s=.error (er,a)∧er≠0)∨(jb s=.ok none∧er=0∧b=false)∨(jb s=.ok (some S.can)∧er=0∧b=true∧SLies w.heap.size w' S)):=by
 obtain⟨hb,h1,h2,h3⟩:=h;refine⟨hb, ?_⟩
 cases hR:jb s with
 | error x=>exact⟨cc,false,x.1,x.2,h1 _ _ hR,.inl ⟨rfl,lnS_nz (a:=x.2) hR⟩⟩
 | ok q=>
  cases q with
  | none=>exact⟨cc,false,0,0,h2 hR,.inr (.inl ⟨rfl,rfl,rfl⟩)⟩
  | some P=>
   obtain⟨S,e1,e2,e3⟩:=h3 P hR;exact⟨S,true,0,0,e1,.inr (.inr ⟨by rw[e2],rfl,rfl,e3⟩)⟩
theorem Dk (sep:List UInt8) (sv:Nat):∀(n:Nat) (l p:List UInt8),p ∈ Lib.splitK sep sv n l→p.length≤l.length
 | 0,l,p,h=>by
  have:p=l:=by simpa [Lib.splitK] using h
  rw[this];exact aw _
 | n+1,l,p,h=>by
  unfold Lib.splitK at h;split at h
  ·have:p=l:=by simpa using h
   rw[this];exact aw _
  ·rcases dO.1 h with rfl | h
   ·rw[List.length_take];omega
   ·have:=Dk sep sv n _ p h
    rw[List.length_drop] at this;omega
theorem lnT_le {s t:ByteArray} (h:t ∈ ic s):t.size≤s.size:=by
 unfold ic lnL at h;obtain⟨p,hp,rfl⟩:=List.mem_map.1 h;split at hp
 ·cases hp
 ·have h1:=Dk _ _ _ _ _ hp
  have h2:=Ev s.data.toList;rw[←tq] at h2;show p.toArray.size≤_;rw[lJ];omega
theorem Il {P:Program} {ops:Array Oper} {o:Oper} {a:Act} {w:World} {K:Act→World→Prop} {Q:Exit→Act→World→Prop} {E:Prop} (hg:o.guard=none) (h:Oper.wp P o a w K Q):if Region.wanted o (yielded ops a.tmps)=true then Oper.wp P o a w K Q else E:=by
 rw[af (by simp[Region.wanted,hg])]
 exact h
def rX (B:Nat) (w:World) (v:Value) (S:SV):Prop:=∀W:World,w.heap.size≤W.heap.size→(∀i,B≤i→i < w.heap.size→some i≠v.ownBlock→W.heap[i]? =w.heap[i]?)→S.In W
section
variable {B:Nat} {w w4 w':World} {v v':Value} {S:SV}
theorem rX.later (h:rX B w v S) (hb:Below w.heap.size w w'):rX B w' v S:=fun W hs hW=>h W (bv hb.size hs) fun i hB hi hn=>(hW i hB (gL hi hb.size) hn).trans (hb.block i hi)
theorem rX.grow (h:rX B w v S) (hb:Below w.heap.size w w4) (hg:w4.grownBy w' v.ownBlock) (ho:v'.ownBlock=v.ownBlock∨v'.ownBlock=some w4.heap.size):rX B w' v' S:=fun W hs hW=>h W (bv hb.size (bv hg.size hs)) fun i hB hi hn=>by
 have h4:i < w4.heap.size:=gL hi hb.size;refine((hW i hB (gL h4 hg.size) fun e=> ?_).trans (hg.block i h4 fun e=>hn e)).trans (hb.block i hi)
 rcases ho with ho | ho
 ·exact hn (by rw[e,ho])
 ·rw[ho] at e;injection e with e;omega
theorem rX.new {C:Nat} (h:SLies C w4 S) (hC:B≤C) (hv:∀k,v.ownBlock=some k→k < C) (hg:w4.grownBy w' v.ownBlock) (ho:v'.ownBlock=v.ownBlock∨v'.ownBlock=some w4.heap.size):rX B w' v' S:=fun W hs hW=>(h.step (bv hg.size hs) fun i h1 h2=>by
 have hn:some i≠v.ownBlock:=fun e=>by have:=hv i e.symm;omega
 refine(hW i (bv hC h1) (gL h2 hg.size) fun e=> ?_).trans (hg.block i h2 fun e=>hn e)
 rcases ho with ho | ho
 ·exact hn (by rw[e,ho])
 ·rw[ho] at e;injection e with e;omega).here
end
structure SrI (w2:World) (RR:Except (Int × Nat) (List SV)) (L:List ByteArray) (k:Nat) (v:Value) (Ss:List SV) (wr:World):Prop where
 row:bP wr w2.heap.size 30 24 cT v Ss
 bel:Below w2.heap.size w2 wr
 all:∀S ∈ Ss,rX w2.heap.size wr v S
 len:Ss.length≤k
 rr:RR=lU (L.drop k) k (Ss.map SV.can)
section
variable {w2 wr w':World} {RR:Except (Int × Nat) (List SV)} {L:List ByteArray} {k:Nat} {v v':Value} {Ss:List SV} {t:ByteArray}
theorem BG (h:L[k]? =some t):L.drop k=t::L.drop (k+1):=by
 rw[yG (mG.1 h).1,(mG.1 h).2]
theorem SrI.err (h:SrI w2 RR L k v Ss wr) (ht:L[k]? =some t) {er:Int} {a:Nat} (hl:jb t=.error (er,a)):RR=.error (er,k):=by
 rw[h.rr,BG ht,lU,hl]
theorem SrI.none (h:SrI w2 RR L k v Ss wr) (ht:L[k]? =some t) (hl:jb t=.ok none) (hb:Below wr.heap.size wr w'):SrI w2 RR L (k+1) v Ss w':=
 ⟨h.row.later hb,hJ h.bel hb,fun S hS=>(h.all S hS).later hb,Nat.le_succ_of_le h.len,by rw[h.rr,BG ht,lU,hl]⟩
theorem SrI.some (h:SrI w2 RR L k v Ss wr) (ht:L[k]? =some t) {S:SV} (hl:jb t=.ok (some S.can)) {w4:World} (hb:Below wr.heap.size wr w4) (hS:SLies wr.heap.size w4 S) (hr:bP w' w2.heap.size 30 24 cT v' (Ss++[S])) (hg:w4.grownBy w' v.ownBlock) (ho:v'.ownBlock=v.ownBlock∨v'.ownBlock=some w4.heap.size):SrI w2 RR L (k+1) v' (Ss++[S]) w':=by
 refine⟨hr, ?_,fun U hU=> ?_, ?_, ?_⟩
 ·exact CM (hJ h.bel hb) (h.row.later hb) (aw _) hg
 ·rcases uQ.1 hU with hU | hU
  ·exact(h.all U hU).grow hb hg ho
  ·have:U=S:=by simpa using hU
   rw[this];exact rX.new hS h.bel.size (fun k hk=>(h.row.low hk).2) hg ho
 ·rw[be]
  have:=h.len;simp only[List.length_cons,List.length_nil];omega
 ·rw[h.rr,BG ht,lU,hl,oU];rfl
theorem SrI.done (h:SrI w2 RR L k v Ss wr) (hk:L.length≤k):RR=.ok (Ss.map SV.can)∧∃V:PV,v=V.v Ss.length∧∀W:World,wr.heap.size≤W.heap.size→(∀i,w2.heap.size≤i→i < wr.heap.size→W.heap[i]? =wr.heap[i]?)→PIn W V Ss:=by
 obtain⟨V,hv,hV⟩:=KF h.row fun S hS W q=>h.all S hS W q.size fun i _ hi _=>q.block i hi
 have hp:=hV wr (aV _ _);refine⟨by rw[h.rr,List.drop_of_length_le hk];rfl,V,hv,fun W hs hW=>⟨hp.cap,hp.max,hp.at_,fun i S hS=>⟨fun j u hj=> ?_,h.all S (oS hS) W hs fun i hB hi _=>hW i hB hi⟩⟩⟩
 have h0:0 < Ss.length:=by have:=(mG.1 hS).1;omega
 have hb:=h.row.low (k:=V.gb) (by rw[hv];unfold PV.v;rw[hp.at_ h0];rfl)
 rw[World.cell?_of_block (w:=wr) (hW V.gb hb.1 hb.2)];exact(hp.row i S hS).1 j u hj
end
open Go.RowKit
theorem Jg (s:ByteArray) (w:World) (hs:s.size≤maxLen) (hW:SyW w) (m:Int) (hm:w.cell? ⟨2,0,none⟩=some (.int .i64 m)):Calls prog 13 #[.string s] w fun e w'=>Below w.heap.size w w'∧
  ((∃er i,mz s=.error er∧er≠0∧e=.returned (.tuple #[.slice none 0 0,cY er i]))∨(∃(V:PV) (P:List SV),mz s=.ok (P.map SV.can)∧e=.returned (.tuple #[V.v P.length,cY 0 0])∧∀W:World,w'.heap.size≤W.heap.size→(∀i,w.heap.size≤i→i < w'.heap.size→W.heap[i]? =w'.heap[i]?)→PIn W V P)):=by
 obtain⟨w1,aI⟩:∃w1,w1=w.alloc (.cells #[.int .i64 0,.int .i64 0] 36):=⟨_,rfl⟩;have hb1:Below w.heap.size w w1:=by rw[aI];exact ba _
 have iW:Hid (w1.heap[w.heap.size]? =some (.cells #[.int .i64 0,.int .i64 0] 36 (0,0))):=ab (by rw[aI];exact ax rfl)
 have aX:=ab hb1;have sL:=ab (fun (t:ByteArray) (ht:t.size≤maxLen) W (q:Below w.heap.size w W)=>Dl t W ht (hW.later q) m (av q hm))
 have HLO:=ab (fun hz=>Id s w1 hz m (av hb1 hm))
 have bG:=ab aI;have HSS:=ab hs;clear hb1 aI hW hm;unfold cY;go_enter func13,ntmps13
 by_cases hz:s.size≤65536
 ·have q1:¬(65536:Int) < (s.size:Int):=by omega
  have HZ:=ab hz;clear hz;go_wp2_with fail;rw[show w.alloc (.cells #[.int .i64 0,.int .i64 0] 36)=w1 from (aa bG).symm];clear q1;refine(aa HLO (aa HZ)).mono ?_;rintro e w2 ⟨hb2,xa,rfl,l4⟩;have HXA:=ab l4;have aE:=ab hb2
  by_cases hn:(ic s).length≤1000
  ·have q1:¬(1000:Int) < ((ic s).length:Int):=by omega
   have kg:Hid (mz s=match lU (ic s) 0 [] with | .error e=>.error e.1 | .ok l=>.ok l):=ab (by unfold mz;rw[ac (by have:=aa HZ;omega),ac (by omega)];rfl)
   have HTS:=ab (fun (t:ByteArray) (h:t ∈ ic s)=>bv (lnT_le h) (aa HSS))
   obtain⟨RR,bD⟩:∃RR,RR=lU (ic s) 0 []:=⟨_,rfl⟩;rw[←bD] at kg;have H0:Hid (SrI w2 RR (ic s) 0 (.slice none 0 0) [] w2):=ab ⟨lX _ _ _ _,aV _ _,fun S hS=>absurd hS eg,aw _,bD⟩
   have HN:=ab hn;clear hn hb2 l4 bD HLO;generalize ic s=L at *;go_wp2_with fail;clear q1;go_loopw [5,23] (fun v x wr=>∃(k:Nat) (Ss:List SV),k≤L.length∧x=.int .i64 (k:Int)∧Hid (SrI w2 RR L k v Ss wr)) (fun _ x _=>L.length - (intOf x).toNat)
   case atStart=>exact⟨0,[],cU _,rfl,aa H0⟩
   case round=>
    obtain⟨k,Ss,hk,rfl,HI⟩:=hrel;have lu:=ab (hJ (hJ (aa aX) (aa aE)) (aa HI).bel);have tZ:=ab (an (aa iW) (hJ (aa aE) (aa HI).bel));rcases cG k L.length with au | gD
    ·have g1:(k:Int) < (L.length:Int):=by omega
     obtain⟨t,ht⟩:∃t,L[k]? =some t:=⟨L[k],gT _⟩;obtain⟨hxv,hxr⟩:=aa HXA (by omega)
     have hct:wr.cell? ⟨w1.heap.size,k,none⟩=some (.string t):=by
      rw[eB _ _ _ _ _ _ (an hxr (aa HI).bel),List.getElem?_toArray,qb,ht];rfl
     have jA:=wh (g:=w1.heap.size) (o:=0) (cap:=L.length) (i:=k) (n:=L.length) underlying28 wO au;rw[ni,←hxv] at jA;have HCL:=ab (aa sL t (aa HTS t (oS ht)) wr (aa lu));have ru:=ab ht;clear ht hxv hxr;go_wp2_with fail;refine(aa HCL).mono ?_;rintro e y1 h;obtain⟨hy1,S,b,er,a,rfl,jg⟩:=ln_one h;have HY1:=ab hy1;have vJ:=ab jg;obtain⟨Z,hZ⟩:∃Z,Z=S.cells:=⟨_,rfl⟩;have iF:Hid (Z.size=24):=ab (by rw[hZ];rfl)
     have dp:Hid (Z.all (·.oneCell')=true):=ab (by rw[hZ];exact SV.cells_one _)
     have HZS:=ab hZ;rw[show S.v=.agg Z by rw[hZ];rfl]
     unfold cY;clear h hy1 jg hZ hct jA HCL;have kS:Hid (((y1.alloc (.cells Z24 30)).alloc (.cells #[.int .i64 0,.int .i64 0] 36)).heap[y1.heap.size]? =some (.cells cc.cells 30 (0,0))):=ab (ci (by simp) (ax rfl))
     have nN:Hid ((((y1.alloc (.cells Z24 30)).alloc (.cells #[.int .i64 0,.int .i64 0] 36)).setRow y1.heap.size Z).heap[y1.heap.size+1]? =some (.cells #[.int .i64 0,.int .i64 0] 36 (0,0))):=ab ((eZ _ _ _ _ (by omega)).trans (ax (by simp)))
     obtain⟨Y2,kM⟩:∃W,W=lnW y1 Z er (a:Int):=⟨_,rfl⟩;have tY:=ab (lnb y1 Z er (a:Int));rw[←kM] at tY;have fb:=ab kM;clear kM;go_upto_region 11 with (first
      | (refine bh rfl 30 _ _ rfl y1.heap.size Z rfl rfl 30 cc.cells (by with_reducible exact aa kS) (de.trans (by rw[aa iF])) (by rw[aa iF];rfl) (aa dp) ?_)
      | (refine bh rfl 36 _ _ rfl (y1.heap.size+1) #[.int .i64 er,.int .i64 (a:Int)] rfl rfl 36 #[.int .i64 0,.int .i64 0] (by with_reducible exact aa nN) fh rfl (by simp[Value.oneCell']) ?_)
      | fail)
     rw[show (((y1.alloc (.cells Z24 30)).alloc (.cells #[.int .i64 0,.int .i64 0] 36)).setRow y1.heap.size Z).setRow (y1.heap.size+1) #[.int .i64 er,.int .i64 (a:Int)]=Y2 from (aa fb).symm];clear kS nN fb;obtain⟨hbY,hsY,hfY⟩:=aa tY;obtain⟨f0, -⟩:=jX hfY;have vL:=ab (hJ (aa HY1) hbY);have HSY:=ab hsY;have HFY:=ab hfY;have HQY:=ab hbY;have HFW:=ab (an (aa tZ) (aa vL));clear hbY hsY hfY tY;rcases aa vJ with ⟨hl,h0⟩ | ⟨hl,h0,rfl⟩ | ⟨hl,h0,rfl,hS⟩
     ·have e1:(er !=0)=true:=by rw[bne,bn h0];rfl
      have HE:=ab ((aa kg).trans (by rw[(aa HI).err (aa ru) hl]))
      have HNZ:=ab h0;clear hl h0 vJ;go_wp2_with fail;obtain⟨S0,aN⟩:∃S0:World→Prop,S0=fun W=>W.cell? ⟨y1.heap.size+1,0,none⟩=some (.int .i64 er):=⟨_,rfl⟩
      have ap:=ab aN;have hS:S0 Y2.drew:=by rw[aN];exact f0
      clear aN;refine gt 5 S0 ?_;intro F;refine aK F 0 ap hS ?_
      (try simp only[aH,aG])
      (try go_frame)
      refine aK F 1 ap hS ?_
      (try simp only[aH,aJ,aG])
      (try go_frame)
      refine aK F 2 ap hS ?_
      (try simp only[aH,aJ,aG])
      (try go_frame)
      refine aK F 3 ap hS ?_
      (try simp only[aH,aJ,aG])
      (try go_frame)
      refine aK F 4 ap hS ?_
      (try simp only[aH,aJ,aG])
      (try go_frame)
      refine gy (by kernel_rfl) rfl (by kernel_rfl) (fun K4 bw=> ?_)
      refine Il rfl (wp_store_row 36 _ _ rfl w.heap.size #[.int .i64 er,.int .i64 (k:Int)] rfl rfl 36 _ (aa HFW) fh rfl (by simp[Value.oneCell']) ?_)
      refine bw _ _ ?_
      (try simp only[aH,aJ,aG])
      (try go_frame)
      clear bw F hS ap;go_wp2_with fail;exact bK (qC rfl _ _ w.heap.size _ _ rfl rfl (bW _ _ _ _ _ _ (aa HFW)) rfl) rfl ⟨ed ((hJ (aa lu) (aa vL)).drew) _ (aw _) _,.inl ⟨er,k,aa HE,aa HNZ,rfl⟩⟩
     ·have e1:(er !=0)=false:=by rw[bne,bt h0];rfl
      have HZ:=ab ((aa HI).none (aa ru) hl (aa vL));clear hl h0 vJ;go_wp2_with fail;exact⟨⟨k+1,Ss,by omega,by go_num,aa HZ⟩,by simp[intOf];omega⟩
     ·obtain⟨ZL,rfl⟩:∃l:List Value,Z=l.toArray:=⟨Z.toList,by simp⟩
      have hzz:ZL.length=24:=by rw[←lJ];exact aa iF
      have e1:(er !=0)=false:=by rw[bne,bt h0];rfl
      have kR:=ab (fun v' w' hr hg ho=>(aa HI).some (v':=v') (w':=w') (aa ru) hl (((aa vL)).alloc (aa vL).size (.cells S.cells 30)) ((hS.below (aa HQY)).below (ba _)) hr hg ho)
      have HR5:=ab ((aa HI).row.later ((aa vL).alloc (aa vL).size (.cells ZL.toArray 30)));have iJ:=ab (bv (aa HI).bel.size (aa vL).size);have bU:=(aa HI).len;have GJ:=F4 ZL hzz;have rE:Hid (∀j u,(cT S)[j]? =some u→(Y2.alloc (.cells ZL.toArray 30)).cell? ⟨Y2.heap.size,j,none⟩=some u):=ab (M4 (by rw[←aa HZS];exact ax rfl))
      have hkn:=aa HN;rw[←aa HZS] at kR;clear hl h0 vJ hS;go_wp2_with (first
       | (refine io rfl 30 _ rfl y1.heap.size rfl 30 ZL.toArray (0,0) _ (by with_reducible exact aa HSY) underlying30 rfl (de.trans (by rw[lJ,hzz])) ?_)
       | (at_builtin;refine wL underlying43 L8 rfl (by decide) (by decide) Gh cT_one rfl _ _ rfl (aa HR5) (by rw[dS];have:=aa iJ;omega) S Y2.heap.size 1 rfl rfl (aa rE) (by omega) ?_;intro v' w6 aS bI how)
       | fail)
      have HZ:=ab (aa kR v' w6 aS bI how);clear aS bI how;exact⟨⟨k+1,Ss++[S],by omega,by go_num,aa HZ⟩,by simp[intOf];omega⟩
    ·obtain⟨tK,V,hv,hV⟩:=(aa HI).done gD
     have HD:=ab tK;have HVV:=ab hV;subst hv;clear tK hV;go_wp2_with (first
      | (refine bh rfl 36 _ _ rfl w.heap.size #[.int .i64 0,.int .i64 0] rfl rfl 36 #[.int .i64 0,.int .i64 0] (by with_reducible exact aa tZ) fh rfl (by simp[Value.oneCell']) ?_)
      | fail)
     exact bK (qC rfl _ _ w.heap.size _ _ rfl rfl (bW _ _ _ _ _ _ (aa tZ)) rfl) rfl ⟨ed (aa lu) _ (aw _) _,.inr ⟨V,Ss,(aa kg).trans (by rw[aa HD]),rfl,fun W h1 h2=>aa HVV W (by simpa using h1) fun i h3 h4=>(h2 i (by have:=(bC.1 (aa iW)).1;have:=(aa aE).size;omega) (by simpa using h4)).trans (eZ _ _ _ _ (by have:=(bC.1 (aa iW)).1;have:=(aa aE).size;omega))⟩⟩
  ·have q1:(1000:Int) < ((ic s).length:Int):=by omega
   have kg:Hid (mz s=.error 5):=ab (by unfold mz;rw[ac (by have:=aa HZ;omega),af (by omega)])
   clear hn hb2 l4;generalize ic s=L at *;have rD:=ab (an (aa iW) (aa aE));go_wp2_with (first
    | (refine bh rfl 36 _ _ rfl w.heap.size #[.int .i64 5,.int .i64 0] rfl rfl 36 #[.int .i64 0,.int .i64 0] (by with_reducible exact aa rD) fh rfl (by simp[Value.oneCell']) ?_)
    | fail)
   exact bK (qC rfl _ _ w.heap.size _ _ rfl rfl (bW _ _ _ _ _ _ (aa rD)) rfl) rfl ⟨ed (hJ (aa aX) (aa aE)) _ (aw _) _,.inl ⟨5,0,aa kg,by decide,rfl⟩⟩
 ·have q1:(65536:Int) < (s.size:Int):=by omega
  have kg:Hid (mz s=.error 4):=ab (by unfold mz;rw[af (by omega)])
  clear hz;go_wp2_with fail;exact bK (qC rfl _ _ w.heap.size _ _ rfl rfl (ax rfl) rfl) rfl ⟨ba _,.inl ⟨4,0,aa kg,by decide,rfl⟩⟩
open Go.RowKit
theorem prA_nl {S:SV} (h:(gA S).2=0):(10:UInt8) ∉ (gA S).1.data.toList:=by
 obtain⟨h1,h2,h3⟩:=z7 h;rw[h3];show (10:UInt8) ∉ (ar (bT S)).toArray.toList;intro q;unfold gA at h;rw[ac (fun e=>e h1)] at h
 split at h
 ·exact absurd h (by decide)
 ·rw[af (show eu (ar (bT S))=true by unfold eu;rw[List.contains_iff_mem];exact q)] at h
  exact absurd h (by decide)
theorem Ja (l:List UInt8):(k9 l).data.toList=l:=rfl
theorem EX:∀(P:List SV),(∀S ∈ P,(gA S).2=0)→ic (k9 (iM P))=P.map fun S=>(gA S).1
 | [],_=>rfl
 | S::P,h=>by
  have ih:=EX P fun U hU=>h U (kH _ hU)
  unfold ic at ih ⊢;rw[Ja] at ih ⊢;rw[show iM (S::P)=(gA S).1.data.toList++10::iM P by simp[iM],D5 (prA_nl (h S sc)),fM,ih]
  rfl
theorem Ds:∀(P:List SV) (i:Nat) (o:List SV),(∀S ∈ P,jb (gA S).1=.ok (some S.bst))→lU (P.map fun S=>(gA S).1) i o=.ok (o++P.map SV.bst)
 | [],_,o,_=>by simp[lU]
 | S::P,i,o,h=>by
  rw[fM,lU,h S sc];dsimp only;rw[Ds P (i+1) _ fun U hU=>h U (kH _ hU)]
  simp
theorem Jy {P:List SV} (h:∀S ∈ P,(gA S).2=0) (hl:∀S ∈ P,jb (gA S).1=.ok (some S.bst)) (h1:P.length≤1000) (h2:(iM P).length≤65536):mz (k9 (iM P))=.ok (P.map SV.bst):=by
 unfold mz;rw[EX P h,Ds P 0 [] hl,ac (by show ¬65536 < (iM P).toArray.size;rw[lJ];omega),ac (by rw[oT];omega)]
 rfl
theorem BV:∀(L:List ByteArray) (i j:Nat) (o l:List SV),lU L i o=.ok l→lU L j o=.ok l
 | [],_,_,_,_,h=>h
 | s::L,i,j,o,l,h=>by
  rw[lU] at h ⊢
  cases hs:jb s with
  | error e=>rw[hs] at h;cases h
  | ok q=>
   rw[hs] at h
   cases q with
   | none=>exact BV L _ _ _ _ h
   | some S=>exact BV L _ _ _ _ h
def m6 (r t:ByteArray):ByteArray:=(⟨#[42]⟩:ByteArray)++r++⟨#[10]⟩++t
theorem DR (r t:ByteArray):(m6 r t).data.toList=(42::r.data.toList)++10::t.data.toList:=by
 unfold m6;simp
theorem DQ (r t:ByteArray):(m6 r t).size=r.size+t.size+2:=by
 rw[tq,DR,tq,tq];simp;omega
theorem IA {r t:ByteArray} {l:List SV} (h:mz t=.ok l) (hr:(10:UInt8) ∉ r.data.toList) (hz:r.size≤1000):
  (mz (m6 r t)=.error 4∧65536 < t.size+r.size+2)∨mz (m6 r t)=.error 5∨mz (m6 r t)=.ok l:=by
 have hL:ic (m6 r t)=k9 (42::r.data.toList)::ic t:=by
  unfold ic;rw[DR,D5 (p:=42::r.data.toList) (by
   intro q;rcases dO.1 q with q | q
   ·exact absurd q (by decide)
   ·exact hr q),fM]
 have hn:jb (k9 (42::r.data.toList))=.ok none:=by
  unfold jb;rw[af ⟨rfl,by show (42::r.data.toList).toArray.size≤2000;rw[lJ,List.length_cons,←tq];omega⟩]
 unfold mz at h ⊢;rw[hL,DQ]
 by_cases h1:65536 < r.size+t.size+2
 ·exact .inl ⟨af h1,by omega⟩
 ·rw[ac h1]
  by_cases h2:1000 < (k9 (42::r.data.toList)::ic t).length
  ·exact .inr (.inl (af h2))
  ·rw[ac h2]
   refine .inr (.inr ?_);rw[List.length_cons] at h2;rw[ac (by omega),ac (by omega)] at h
   rw[lU,hn];dsimp only
   cases hR:lU (ic t) 0 [] with
   | error e=>rw[hR] at h;cases h
   | ok q=>
    rw[hR] at h;rw[BV _ 0 1 _ _ hR];exact h
open Go.RowKit
theorem J2 (v0 v9 v10 v11:ByteArray) (v1:Int):prog.built 30 [(0,.string v0),(1,.int .i64 v1),(9,.string v9),(10,.string v10),(11,.string v11)]=some #[.string v0,.int .i64 v1,.int .i64 0,.string ⟨#[]⟩,.int .i64 0,.string ⟨#[]⟩,.slice none 0 0,.int .i64 0,.string ⟨#[]⟩,.int .i64 0,.string ⟨#[]⟩,.slice none 0 0,.int .i64 0,.string ⟨#[]⟩,.int .i64 0,.string ⟨#[]⟩,.slice none 0 0,.string ⟨#[]⟩,.string ⟨#[]⟩,.slice none 0 0,.slice none 0 0,.string v9,.string v10,.string v11]:=by kernel_rfl
theorem GU {P:Program} {ops:Array Oper} {rest:List Oper} {o:Oper} {a:Act} {w:World} {Q:Exit→Act→World→Prop} (hg:o.guard=none) (t:TypeId) (i0 i1 i2 i3 i4:Nat) (x0 x1 x2 x3 x4:Operand) (v0 v1 v2 v3 v4:Value) (ho:o.op=.build t #[(i0,x0),(i1,x1),(i2,x2),(i3,x3),(i4,x4)]) (cs:Array Value)
  (h0:a.eval x0=v0) (h1:a.eval x1=v1) (h2:a.eval x2=v2) (h3:a.eval x3=v3) (h4:a.eval x4=v4)
  (hf:P.built t [(i0,v0),(i1,v1),(i2,v2),(i3,v3),(i4,v4)]=some cs) (h:wpList P ops Q rest (a.put o.dst (.agg cs)) w):wpList P ops Q (o::rest) a w:=by
 have e:((#[(i0,x0),(i1,x1),(i2,x2),(i3,x3),(i4,x4)]:Array (Nat × Operand)).map fun (i,x)=>(i,a.eval x)).toList=[(i0,v0),(i1,v1),(i2,v2),(i3,v3),(i4,v4)]:=by
  rw[←h0,←h1,←h2,←h3,←h4];simp
 refine wpList_build hg t _ ho (by rw[e,hf];rfl) ?_
 rw[e,hf];exact h
end Go.Proofs.YtlmnjbipfacniaaGreatDoor
