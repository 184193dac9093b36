/- The reader of patterns: a piece and the names that are given -/
import Derived.Test.YtlmnjbipfacniaaGreatDoorRdIMs
import Derived.Test.YtlmnjbipfacniaaGreatDoorRegionSinkMs
import Derived.Test.YtlmnjbipfacniaaGreatDoorRdBMs
import Derived.Orders
import Derived.Great.BuildSlice
import Derived.Laws.Rows
import Derived.WalkKit
set_option maxRecDepth 100000
set_option maxHeartbeats 8000000
namespace Go.Proofs.YtlmnjbipfacniaaGreatDoor
open Go.Proofs.Tryz
open Go.RowKit
section
variable {P:Program} {ops:Array Oper} {Q:Exit→Act→World→Prop} {S:World→Prop} {n:Nat}
theorem Fx {i j:Nat} {oi oj:Oper} {f:Nat} {listed:Array Bool} {a:Act} {w:World} (hr:Region.ready .any ops listed=[i,j]) (hi:ops[i]? =some oi) (hj:ops[j]? =some oj) (mN:decide (i < n)=true) (hjn:decide (j < n)=true)
  (h1:∀K:Act→World→Prop,(∀a' w',S w'→(kF ops n (listed.setIfInBounds i true)→iL P ops Q S n f (listed.setIfInBounds i true) a' w')→K a' w')→
   if Region.wanted oi (yielded ops a.tmps)=true then Oper.wp P oi a w K Q else K (a.put oi.dst undef) w)
  (h2:∀K:Act→World→Prop,(∀a' w',S w'→(kF ops n (listed.setIfInBounds j true)→iL P ops Q S n f (listed.setIfInBounds j true) a' w')→K a' w')→
   if Region.wanted oj (yielded ops a.tmps)=true then Oper.wp P oj a w K Q else K (a.put oj.dst undef) w):kF ops n listed→iL P ops Q S n (f+1) listed a w:=fun inv=>
 ⟨fun h0=>absurd (hr▸h0) (by simp),fun k hk=>by
  have hk':k=i∨k=j:=by rw[hr] at hk;simpa using hk
  rcases hk' with rfl | rfl
  ·exact wpOp_step hi fun K hK=>h1 K fun a' w' hS hA=>hK a' w' ⟨fun _=>hS,hA (inv.set hk (nf mN))⟩
  ·exact wpOp_step hj fun K hK=>h2 K fun a' w' hS hA=>hK a' w' ⟨fun _=>hS,hA (inv.set hk (nf hjn))⟩⟩
end
theorem Iy {k' B gk:Nat} {g:Option Nat} {nm:ByteArray} {w:World} {U:PT} (hk:k'≤100) (hn:nm.size≤65536) (hr:w.heap[gk]? =some (.cells (ai U) 27 (0,0))) (hB:B≤gk) (hg:some gk≠g) (hU:fX B g w U):fX B g w (fS (k':Int) nm gk 1 [U]):=by
 intro X hX;have au:gk < w.heap.size:=(bC.1 hr).1;have hr2:X.heap[gk]? =some (.cells (ai U) 27 (0,0)):=(hX gk hB au hg).trans hr;exact By (EC hr2 (B:=B) hB) (fun x hx=>by rw[jv] at hx;subst hx;exact hU X hX) (k':Int) rfl hk hn
theorem AX {P:Program} {o:Oper} {ops:Array Oper} {a:Act} {w:World} {K:Act→World→Prop} {Q:Exit→Act→World→Prop} {E:Prop} (hg:o.guard=none) (h:Oper.wp P o a w K Q):if Region.wanted o (yielded ops a.tmps)=true then Oper.wp P o a w K Q else E:=by
 rw[af (by simp[Region.wanted,hg])];exact h
theorem fX.setRow {B g:Nat} {w:World} {U:PT} (h:fX B (some g) w U) (cs:Array Value):fX B (some g) (w.setRow g cs) U:=h.step (by simp) fun i _ _ h3=>eZ w g i cs (fun e=>h3 (by rw[e]))
theorem Dt {s:ByteArray} {z a1 gp gk K f k0:Nat} {o:Int} {w W wr:World} {V q:PT} {t:ByteArray} {RR:Rd PT} (ha:a1≤s.size) (hf:s.size < a1+f) (hgp:gp < W.heap.size) (hR:bQ W z s a1 o) (hB:But z w W)
  (hX:W.heap[w.heap.size]? =some (.cells aB 27 (0,0))) (hP:W.heap[gp]? =some (.cells (ai V) 27 (0,0))) (hk:W.heap[gk]? =some (.cells (ai V) 27 (0,0))) (hgk:gk≠gp) (hlk:w.heap.size+1≤gk) (hlp:w.heap.size+1≤gp) (mO:gp≠z)
  (hc:V.can=q) (hL:fX (w.heap.size+1) (some gp) W V) (hE:RR=jd s f (aP (K:Int) ⟨#[]⟩ 0 t [q]) a1) (hK:K≤22) (ht:t.size≤65536) (hm:kC wr z=k0) (au:k0 < a1):
  (∃(f k:Nat) (q' V':PT),k≤s.size∧s.size < k+f∧gp+1≤(W.setRow gp (ai (fS (K:Int) t gk 1 [V]))).heap.size∧Hid (bQ (W.setRow gp (ai (fS (K:Int) t gk 1 [V]))) z s k o)∧Hid (But z w (W.setRow gp (ai (fS (K:Int) t gk 1 [V]))))∧Hid ((W.setRow gp (ai (fS (K:Int) t gk 1 [V]))).heap[w.heap.size]? =some (.cells aB 27 (0,0)))∧Hid ((W.setRow gp (ai (fS (K:Int) t gk 1 [V]))).heap[gp]? =some (.cells (ai V') 27 (0,0)))∧Hid (V'.can=q'∧fX (w.heap.size+1) (some gp) (W.setRow gp (ai (fS (K:Int) t gk 1 [V]))) V')∧Hid (RR=jd s f q' k))∧
  s.size+1 - kC (W.setRow gp (ai (fS (K:Int) t gk 1 [V]))) z < s.size+1 - kC wr z:=by
 have cX:=hR.setRow mO (ai (fS (K:Int) t gk 1 [V]));refine⟨⟨f,a1,aP (K:Int) ⟨#[]⟩ 0 t [q],fS (K:Int) t gk 1 [V],ha,hf,by rw[show (W.setRow gp (ai (fS (K:Int) t gk 1 [V]))).heap.size=W.heap.size by simp];exact hgp,cX,jU hB (by omega) _,(eZ W gp _ _ (by omega)).trans hX,bW _ _ _ _ _ _ hP,⟨?_, ?_⟩,hE⟩, ?_⟩
 ·rw[wS,fM,jM,hc]
 ·exact Iy (by omega) ht ((eZ W gp gk _ hgk).trans hk) hlk (fun e=>hgk (by injection e)) (hL.setRow _)
 ·rw[cX.at,hm];omega
theorem gvK_le (b:Nat):jc b≤22:=by unfold jc;split <;> (try split) <;> omega
theorem Ls (s:ByteArray) (f:Nat) (p:PT) (i:Nat):jd s (f+1) p i=if jc (nx s i)=0 then .ok (p,sk s i) else bJ (ib s (sk s i+1)) fun t e=>jd s f (aP (jc (nx s i)) ⟨#[]⟩ 0 t [p]) e:=rfl
theorem Du {d:Nat} {B:ByteArray→Nat→Rd PT} (hB:∀s,eA s (B s)) (rF:oR 188 d (fun s=>j3 d (B s) s)):oR 183 d (fun s=>ia d (B s) s):=by
 intro s i z w hs hi hR hS hzG;have hzl:=hR.lt;have bd:But z w (w.alloc (.cells aB 27)):=(But.refl z w).alloc _;have eO:=hR.below ((aV _ _).alloc (aw _) (.cells aB 27));have bi:w.heap.size≠z:=by omega
 have aF:=ab bd;have eb:Hid ((w.alloc (.cells aB 27)).heap[w.heap.size]? =some (.cells aB 27 (0,0))):=ab (oQ);have HC:Hid (Calls prog 188 #[.pointer (some ⟨z,0,none⟩)] (w.alloc (.cells aB 27)) fun e w'=>fR (eW (w.alloc (.cells aB 27)).heap.size) z s ((200 - d:Nat):Int) (w.alloc (.cells aB 27)) (j3 d (B s) s i) e w'):=ab (rF s i z _ hs hi eO (hS.but bd hzG) hzG)
 show Calls _ _ _ _ fun e w'=>fR (eW w.heap.size) z s ((200 - d:Nat):Int) w (ia d (B s) s i) e w'
 have dT:Hid (ia d (B s) s i=bJ (j3 d (B s) s i) fun p j=>jd s (s.size+1) p j):=ab (rfl)
 have pH:=ab (fun x j=>zY (d:=d) (hB s) i x j hi)
 generalize ia d (B s) s i=RR at *;generalize ((200 - d:Nat):Int)=o at *;generalize j3 d (B s) s i=RB at *;clear bd eO hR hS rF hB;rcases RB with ⟨er,a1⟩ | ⟨p0,j0⟩
 ·have go:Hid (RR=.error (er,a1)):=ab (by rw[aa dT,jr])
  go_enter func183,ntmps183;go_wp2_with (refine(aa HC).mono ?_;intro e w3 hP;obtain⟨hb3,rfl⟩:=jW hP rfl;clear hP;have ao:=ab ((aa aF).trans hb3);clear hb3;unfold aC);exact⟨rfl,fF (aa go) (aa ao) rfl⟩
 ·have dU:Hid (RR=jd s (s.size+1) p0 j0):=ab (by rw[aa dT,dw])
  have nv:=aa pH p0 j0 rfl;clear dT pH;go_enter func183,ntmps183;go_wp2_with fail;refine(aa HC).mono ?_;intro e w1 hP;obtain⟨hb1,⟨U,rfl,hU,hL⟩,hRd1⟩:=js hP rfl;rw[dS] at hL;have gP:w.heap.size+1≤w1.heap.size:=by have:=hb1.size;rw[dS] at this;exact this
  have aX:=ab ((aa aF).trans hb1);have d6:=ab (dK hb1 (aa eb) bi);have H1:=ab hRd1;have HU:=ab (And.intro hU hL);clear hP hb1 hRd1 hU hL HC;have hb2:Below w1.heap.size w1 (w1.alloc (.cells (ai U) 27)):=ba _;have aE:=ab ((aa aX).trans (But.of_below hb2));have eE:=ab (an (aa d6) hb2);have H2:=ab ((aa H1).below hb2);have dz:Hid ((w1.alloc (.cells (ai U) 27)).heap[w1.heap.size]? =some (.cells (ai U) 27 (0,0))):=ab (ax rfl);have kU:=ab ((aa HU).2.newrow (aw _) (.cells (ai U) 27));have mO:w1.heap.size≠z:=by omega
  clear hb2;have hsz2:(w1.alloc (.cells (ai U) 27)).heap.size=w1.heap.size+1:=dS _ _;unfold pv;go_wp2_with fail;rw[show (#[.int .i64 U.k,.string U.t,.int .i64 U.n,.string U.nm,.slice U.xa U.len U.cap]:Array Value)=ai U from rfl];generalize (w1.alloc (.cells (ai U) 27))=w2 at *;clear H1 aX d6;generalize w1.heap.size=gp at *;go_loopw [] (fun wr=>∃(f k:Nat) (q V:PT),k≤s.size∧s.size < k+f∧gp+1≤wr.heap.size∧Hid (bQ wr z s k o)∧Hid (But z w wr)∧Hid (wr.heap[w.heap.size]? =some (.cells aB 27 (0,0)))∧Hid (wr.heap[gp]? =some (.cells (ai V) 27 (0,0)))∧Hid (V.can=q∧fX (w.heap.size+1) (some gp) wr V)∧Hid (RR=jd s f q k)) (fun wr=>s.size+1 - kC wr z)
  case atStart=>exact⟨s.size+1,j0,p0,U,nv.2,by omega,by omega,aa H2,aa aE,aa eE,aa dz,⟨(aa HU).1,aa kU⟩,aa dU⟩
  case round=>
   obtain⟨f,k,q,V,hk,hf,qq,HR,HB,HX,HP,HV,HE⟩:=hrel;have pb:=eG s k hk;have HN:=ab (sU wr hs hk (aa HR));have HG:=ab (I4 (nx s k));have HM:=ab (aa HR).at;have rf:f≠0:=by omega
   obtain⟨f',rfl⟩:∃f',f=f'+1:=⟨f - 1,by omega⟩
   have dd:=ab ((aa HE).trans (Ls s f' q k));have hK22:=gvK_le (nx s k);have dW:=ab (fun (h:jc (nx s k)≠0)=>kW (s:=s) (i:=k) (fun z=>h (by rw[z];rfl)))
   have fQ:=ab (fun w h1 h2=>D1 (s:=s) (i:=sk s k+1) (z:=z) (o:=o) w hs h1 h2)
   have ml:=ab (fun t e h=>v8 s (sk s k+1) t e h)
   clear H2 aE eE dz HU kU dU HE;generalize nx s k=b at *;generalize jc b=K at *;generalize sk s k=m at *
   by_cases vn:K=0
   ·have eF:Hid (RR=.ok (q,m)):=ab (by rw[aa dd,af vn])
    have e0:((K:Int)==0)=true:=bt;clear dd vn fQ ml dW;go_wp2_with fail;refine(aa HN).mono ?_;rintro e w3 ⟨rfl,hb3,hR3⟩;have bo:=ab (dK hb3 (aa HX) bi);have gq:=ab (dK hb3 (aa HP) (by omega))
    have ao:=ab ((aa HB).trans hb3);have po:=ab ((aa HV).2.but hb3 (by omega))
    have H3:=ab hR3;clear hb3 hR3;go_wp2_with fail;refine(aa HG _).mono ?_;rintro e w3 ⟨rfl,rfl⟩;obtain⟨x0,x1,x2,x3,x4⟩:=ee (aa gq);go_wp2_with (first
     | (refine bh rfl 27 _ _ rfl w.heap.size (ai V) rfl rfl 27 aB (aa bo) dE rfl (gZ _) ?_)
     | fail)
    (try simp only[Exit.inBlock,Exit.then])
    refine bK (dM rfl _ _ w.heap.size 27 (ai V) (0,0) _ rfl (bW _ _ _ _ _ _ (aa bo)) underlying27 rfl dE) rfl ?_;exact lA (aa eF) (jU (aa ao) (aw _) _) ⟨V,rfl,(aa HV).1,((aa po).lies.setRow (by omega) _).mono (by omega)⟩ ((aa H3).setRow bi _)
   ·have e0:((K:Int)==0)=false:=bn
    have eF:Hid (RR=bJ (ib s (m+1)) fun t e=>jd s f' (aP K ⟨#[]⟩ 0 t [q]) e):=ab (by rw[aa dd,ac vn])
    have hmlt:=aa dW vn;have qY:=ab (fun w h=>aa fQ w (by omega) h)
    have HNA2:=ab (fun t e h=>aa ml t e (by omega) h)
    clear dd fQ ml dW vn;go_wp2_with fail;refine(aa HN).mono ?_;rintro e w3 ⟨rfl,hb3,hR3⟩;have gW:=hb3.trans ((But.refl z w3).setCell 1 (.int .i64 ((m+1:Nat):Int)));have bo:=ab (dK gW (aa HX) bi);have gq:=ab (dK gW (aa HP) (by omega))
    have ao:=ab ((aa HB).trans gW);have po:=ab ((aa HV).2.but gW (by omega))
    have H3:=ab (hR3.set1 (m+1));have c1:=hR3.c1;have fz:=hR3.fz 1;have vd:=hb3.size;clear hb3 hR3 gW;go_wp2_with fail;refine(aa HG _).mono ?_;rintro e w3 ⟨rfl,rfl⟩;go_wp2_with fail;have kO:Hid ((w3.setCell ⟨z,1,none⟩ (.int .i64 ((m:Int)+1))).heap.size=w3.heap.size):=ab (by simp)
    rw[show ((m+1:Nat):Int)=(m:Int)+1 from rfl] at H3 ao bo gq po;generalize w3.setCell ⟨z,1,none⟩ (.int .i64 ((m:Int)+1))=w4 at *;have hs4:gp+1≤w4.heap.size:=by have:=aa kO;omega
    obtain⟨x0,x1,x2,x3,x4⟩:=ee (aa gq);clear c1 fz;obtain⟨RN,hRN⟩:∃RN,ib s (m+1)=RN:=⟨_,rfl⟩;rw[hRN] at qY HNA2 eF;have HRN:=ab hRN;clear hRN;rcases RN with ⟨er,a1⟩ | ⟨t,a1⟩
    ·have jG:Hid (RR=.error (er,a1)):=ab (by rw[aa eF,jr])
     have yY:=ab (fun W (hb:Below w4.heap.size w4 W)=>(aa qY W ((aa H3).below hb)).mono (R':=fun e w'=>e=aC er a1∧But z w4 w') fun e w' hP=>⟨(jW hP rfl).2,(But.of_below hb).trans (jW hP rfl).1⟩)
     clear qY;obtain⟨S0,aN⟩:∃S0:World→Prop,S0=fun w'=>w'.cell? ⟨gp,0,none⟩=some (.int .i64 V.k)∧w'.cell? ⟨gp,1,none⟩=some (.string V.t)∧w'.cell? ⟨gp,2,none⟩=some (.int .i64 V.n)∧w'.cell? ⟨gp,3,none⟩=some (.string V.nm)∧w'.cell? ⟨gp,4,none⟩=some (.slice V.xa V.len V.cap):=⟨_,rfl⟩
     have ap:=ab aN;have hS:S0 w4.drew:=by rw[aN];exact⟨x0,x1,x2,x3,x4⟩
     have aW:Hid (∀W,W.heap[gp]? =some (.cells (ai V) 27 (0,0))→S0 W):=ab (fun W h=>by rw[aN];exact ee h)
     clear aN;refine gt 6 S0 ?_;intro F;refine aK F 0 ap hS ?_
     (try go_frame)
     refine aK F 1 ap hS ?_
     (try go_frame)
     refine aK F 3 ap hS ?_
     (try go_frame)
     refine Fx (i:=2) (j:=4) (by kernel_rfl) rfl rfl (by rfl) (by rfl) (fun K2 eD=> ?_) (fun K2 eD=> ?_)
     ·go_simp
      refine(aa yY _ (aV _ _).drew).mono ?_;rintro e w5 ⟨rfl,hb5⟩;have dJ:=ab ((aa ao).trans hb5);clear hb5;unfold aC;exact⟨rfl,fF (aa jG) (aa dJ) rfl⟩
     ·go_simp
      have gX:Below w4.heap.size w4 (w4.alloc (.cells (ai V) 27)).drew:=(ba _).drew;refine eD _ _ (aa aW _ (an (aa gq) gX)) ?_;refine ce 2 (fun K3 cC=> ?_)
      go_simp;refine(aa yY _ gX).mono ?_;rintro e w5 ⟨rfl,hb5⟩;have dJ:=ab ((aa ao).trans hb5);clear hb5;unfold aC;exact⟨rfl,fF (aa jG) (aa dJ) rfl⟩
    ·have yY:=ab (fun W (hb:Below w4.heap.size w4 W)=>(aa qY W ((aa H3).below hb)).mono (R':=fun e w'=>e=.returned (.string t)∧But z W w'∧bQ w' z s a1 o) fun e w' hP=>⟨(js hP rfl).2.1,(js hP rfl).1,(js hP rfl).2.2⟩)
     have HEO:Hid (RR=jd s f' (aP K ⟨#[]⟩ 0 t [q]) a1):=ab (by rw[aa eF,dw])
     have hadv5:=aa HNA2 t a1 rfl;have sD:=ab (FV hs (aa HRN));clear qY;obtain⟨S0,aN⟩:∃S0:World→Prop,S0=fun w'=>w'.cell? ⟨gp,0,none⟩=some (.int .i64 V.k)∧w'.cell? ⟨gp,1,none⟩=some (.string V.t)∧w'.cell? ⟨gp,2,none⟩=some (.int .i64 V.n)∧w'.cell? ⟨gp,3,none⟩=some (.string V.nm)∧w'.cell? ⟨gp,4,none⟩=some (.slice V.xa V.len V.cap):=⟨_,rfl⟩
     have ap:=ab aN;have hS:S0 w4.drew:=by rw[aN];exact⟨x0,x1,x2,x3,x4⟩
     have aW:Hid (∀W,W.heap[gp]? =some (.cells (ai V) 27 (0,0))→S0 W):=ab (fun W h=>by rw[aN];exact ee h)
     clear aN;refine gt 6 S0 ?_;intro F;refine aK F 0 ap hS ?_
     (try go_frame)
     refine aK F 1 ap hS ?_
     (try go_frame)
     refine aK F 3 ap hS ?_
     (try go_frame)
     refine Fx (i:=2) (j:=4) (by kernel_rfl) rfl rfl (by rfl) (by rfl) (fun K2 eD=> ?_) (fun K2 eD=> ?_)
     ·go_simp
      refine(aa yY _ (aV _ _).drew).mono ?_;rintro e w5 ⟨rfl,hb5,hR5⟩;have cw:But z w4 w5:=(But.of_below (aV _ _).drew).trans hb5;have kQ:=ab (dK cw (aa gq) mO);refine eD _ _ (aa aW _ (aa kQ)) ?_;clear hS;have hS:S0 w5:=aa aW _ (aa kQ);refine ce 4 (fun K3 cC=> ?_)
      go_simp;have gX:Below w5.heap.size w5 (w5.alloc (.cells (ai V) 27)):=ba _;refine cC _ _ (aa aW _ (an (aa kQ) gX)) ?_;clear hS;have hS:S0 (w5.alloc (.cells (ai V) 27)):=aa aW _ (an (aa kQ) gX);refine ce 5 (fun K5 dy=> ?_)
      go_simp;refine dy _ _ hS ?_;refine gy (by kernel_rfl) rfl (by kernel_rfl) (fun K4 bw=> ?_)
      refine AX rfl (wp_store_row 27 (.tmp 3) (.tmp 25) rfl gp (ai (fS (K:Int) t w5.heap.size 1 [V])) rfl rfl 27 (ai V) (an (aa kQ) gX) dE rfl (gZ _) ?_);refine bw _ _ ?_
      (try simp only[aH,aJ,aG])
      (try go_frame)
      have dY:=ab (Dt (K:=K) (f:=f') (gk:=w5.heap.size) (t:=t) (wr:=wr) (by omega) (by omega) (by rw[dS];have:=cw.size;omega) (hR5.below gX) ((aa ao).trans (cw.trans (But.of_below gX))) (an (dK cw (aa bo) bi) gX) (an (aa kQ) gX) (ax rfl) (by have:=cw.size;omega) (by have:=cw.size;omega) (by omega) mO (aa HV).1 (((aa po).but cw (by omega)).below gX) (aa HEO) (by omega) (aa sD) (aa HM) (by omega))
      clear dy K5 bw cC eD K4 K3 K2 F hS ap aW hb5 hR5 cw gX;go_wp2_with fail;exact aa dY
     ·go_simp
      have gX:Below w4.heap.size w4 (w4.alloc (.cells (ai V) 27)).drew:=(ba _).drew;refine eD _ _ (aa aW _ (an (aa gq) gX)) ?_;refine ce 2 (fun K3 cC=> ?_)
      go_simp;refine(aa yY _ gX).mono ?_;rintro e w5 ⟨rfl,hb5,hR5⟩;have cw:But z w4 w5:=(But.of_below gX).trans hb5;have kQ:=ab (dK cw (aa gq) mO);have pC:=ab (dK hb5 (show (w4.alloc (.cells (ai V) 27)).drew.heap[w4.heap.size]? =some (.cells (ai V) 27 (0,0)) from ax rfl) (by omega))
      refine cC _ _ (aa aW _ (aa kQ)) ?_;clear hS;have hS:S0 w5:=aa aW _ (aa kQ);refine ce 5 (fun K5 dy=> ?_)
      go_simp;refine dy _ _ hS ?_;refine gy (by kernel_rfl) rfl (by kernel_rfl) (fun K4 bw=> ?_)
      refine AX rfl (wp_store_row 27 (.tmp 3) (.tmp 25) rfl gp (ai (fS (K:Int) t w4.heap.size 1 [V])) rfl rfl 27 (ai V) (aa kQ) dE rfl (gZ _) ?_);refine bw _ _ ?_
      (try simp only[aH,aJ,aG])
      (try go_frame)
      have dY:=ab (Dt (K:=K) (f:=f') (gk:=w4.heap.size) (t:=t) (wr:=wr) (by omega) (by omega) (by have:=cw.size;omega) hR5 ((aa ao).trans cw) (dK cw (aa bo) bi) (aa kQ) (aa pC) (by omega) (by omega) (by omega) mO (aa HV).1 ((aa po).but cw (by omega)) (aa HEO) (by omega) (aa sD) (aa HM) (by omega))
      clear dy K5 bw cC eD K4 K3 K2 F hS ap aW hb5 hR5 cw gX;go_wp2_with fail;exact aa dY
open Go.RowKit
def xz:ByteArray:=⟨#[32,61,32]⟩
def xy:ByteArray:=⟨#[32,63,32]⟩
def tDfB:ByteArray:=⟨#[32,58,61,32]⟩
theorem pN:(prog.info? 30).map (·.size)=some 24:=by kernel_rfl
theorem g5 {t:ByteArray} (h:t.size≠0→ca t=true):t.size≤16:=by
 by_cases q:t.size=0
 ·omega
 ·exact(mq (h q)).2.1
theorem wV {T:PT} (h:T.fits=true):T.cnt≤4096:=by
 unfold PT.fits at h;rw[uM] at h;exact nf h.1
theorem stm_1 (S:SV) (pt:ByteArray) {W w:World} {B z:Nat} {v:Value} {o:List UInt8} {f:Bool} (hk:S.k=1) (hE:EnvW W) (hb:Below W.heap.size W w) (hz:W.heap.size≤z) (hW:WrI B z w v o f) (eJ:S.In W) (fU:S.wrong=0) (ho:max o.length 140000+500000≤9000000):
  Calls prog 20 #[.pointer (some ⟨z,0,none⟩),S.v,.string pt] w fun e w'=>ik B z w v o (ar (bT S)) f 500000 e w':=by
 have hzl:z < w.heap.size:=(bC.1 hW.blk).1;have bX:w.heap.size≠z:=by omega
 obtain⟨eC,co⟩:=qE fU;have mM:=g5 eC.lab;have oW:=g5 eC.al;have oV:=g5 eC.ye;have jO:=g5 eC.no;obtain⟨C,hC⟩:∃C,C=S.cells:=⟨_,rfl⟩;have dI:S.v=.agg C:=by rw[hC];rfl
 have gn:=ab dI;have iF:Hid (C.size=24):=ab (by rw[hC];rfl)
 have jN:Hid (C[2]? =some (.int .i64 S.tg.k)∧C[3]? =some (.string S.tg.t)∧C[4]? =some (.int .i64 S.tg.n)∧C[5]? =some (.string S.tg.nm)∧C[6]? =some (.slice S.tg.xa S.tg.len S.tg.cap)):=ab (by rw[hC];exact⟨rfl,rfl,rfl,rfl,rfl⟩)
 have gN:Hid (C[7]? =some (.int .i64 S.va.k)∧C[8]? =some (.string S.va.t)∧C[9]? =some (.int .i64 S.va.n)∧C[10]? =some (.string S.va.nm)∧C[11]? =some (.slice S.va.xa S.va.len S.va.cap)):=ab (by rw[hC];exact⟨rfl,rfl,rfl,rfl,rfl⟩)
 have qf:Hid (C[17]? =some (.string S.nm)∧C[18]? =some (.string S.en)∧C[19]? =some S.ps.v∧C[20]? =some S.ls.v):=ab (by rw[hC];exact⟨rfl,rfl,rfl,rfl⟩)
 have eT:C[0]? =some (.string S.lab):=by rw[hC];rfl
 have dF:C[1]? =some (.int .i64 S.k):=by rw[hC];rfl
 have dp:=ab dF;rw[dI];obtain⟨w1,aI⟩:∃w1,w1=w.alloc (.cells C 30):=⟨_,rfl⟩;have bp:Below w.heap.size w w1:=by rw[aI];exact ba _
 have am:w1.heap[w.heap.size]? =some (.cells C 30 (0,0)):=by rw[aI];exact ax rfl
 have H1:=ab ((Wn.start hb hW).below bp);have bA:=ab am;have bL:Hid (w1.heap.size=w.heap.size+1):=ab (by rw[aI];simp)
 have bG:Hid (w.alloc (.cells C 30)=w1):=ab (aI.symm);have HZ:=ab (And.intro hE hz);have iV:=ab eJ;have iv:Hid (ar (if S.lab.size=0 then [] else [wd S.lab])=S.lab.data.toList):=ab (by
  by_cases q:S.lab.size=0
  ·rw[af q];exact(kG (by rw[eQ];exact q)).symm
  ·rw[ac q];exact lf _)
 have c0:=bB am eT;have c1:=bB am dF;rw[aI] at c0 c1;clear hE hb hW bp am aI hC dI eJ fU eC eT dF;rw[hk] at c1 dp;have HI:Hid (ar (bT S)=S.lab.data.toList++([]++ar (dx S))):=ab (by
  unfold bT iA;rw[fW,fW,aa iv,hk];rfl)
 clear co hk iv;have cg:Hid (Calls prog 42 #[.pointer (some ⟨z,0,none⟩),.slice (some ⟨w1.heap.size,0,none⟩) 1 1] (w1.alloc (.cells #[.string S.lab] 9)) _):=ab ((aa H1).put (aa HZ).1 (aa HZ).2 (by omega) [S.lab] (by simp) (fun t ht=>by simp only[dO,eg,fN] at ht;subst ht;omega) 16 (by show (bH [S.lab]).length≤16;unfold bH;simp only[gU,iE,be,List.length_nil,eQ];omega))
 rw[aa bL] at cg;go_enter func20,ntmps20;go_wp2_with fail;rw[aa bG];refine(aa cg).mono ?_;rintro e w2 ⟨rfl,v2,o2,f2,h2,cJ⟩;have cV:=ab (cJ.keep (aa H1).wr (aa bA) (by decide) bX)
 have H2:=ab h2;clear h2 cJ cg H1;clear c0 c1;have c1:=bB (aa cV) (aa dp);have eq:=ab (vR S (aa HZ).1 (aa H2).bel (aa HZ).2 (aa H2).wr oW oV jO ((aa H2).len2 (by omega)))
 rw[aa gn] at eq;go_wp2_with (first
  | (refine io rfl 30 _ rfl w.heap.size rfl 30 C (0,0) _ (aa cV) underlying30 rfl (pN.trans (by rw[aa iF])) ?_)
  | fail)
 refine(aa eq).mono ?_;rintro e w3 ⟨rfl,bg⟩;obtain⟨v3,o3,f3,h3, -⟩:=(aa H2).sub (aa HZ).2 bg;have HF:=ab (h3.done (t:=ar (bT S)) (c:=500000) (by rw[aa HI];rw[fw];show []++S.lab.data.toList++ar (dx S)=_;simp) (by omega))
 clear bg h3 eq H2;go_wp2_with fail;go_end0;exact⟨rfl,aa HF⟩
theorem stm_2 (S:SV) (pt:ByteArray) {W w:World} {B z:Nat} {v:Value} {o:List UInt8} {f:Bool} (hk:S.k=2) (hE:EnvW W) (hb:Below W.heap.size W w) (hz:W.heap.size≤z) (hW:WrI B z w v o f) (eJ:S.In W) (fU:S.wrong=0) (ho:max o.length 140000+500000≤9000000):
  Calls prog 20 #[.pointer (some ⟨z,0,none⟩),S.v,.string pt] w fun e w'=>ik B z w v o (ar (bT S)) f 500000 e w':=by
 have hzl:z < w.heap.size:=(bC.1 hW.blk).1;have bX:w.heap.size≠z:=by omega
 obtain⟨eC,co⟩:=qE fU;have mM:=g5 eC.lab;have oW:=g5 eC.al;have oV:=g5 eC.ye;have jO:=g5 eC.no;obtain⟨C,hC⟩:∃C,C=S.cells:=⟨_,rfl⟩;have dI:S.v=.agg C:=by rw[hC];rfl
 have gn:=ab dI;have iF:Hid (C.size=24):=ab (by rw[hC];rfl)
 have jN:Hid (C[2]? =some (.int .i64 S.tg.k)∧C[3]? =some (.string S.tg.t)∧C[4]? =some (.int .i64 S.tg.n)∧C[5]? =some (.string S.tg.nm)∧C[6]? =some (.slice S.tg.xa S.tg.len S.tg.cap)):=ab (by rw[hC];exact⟨rfl,rfl,rfl,rfl,rfl⟩)
 have gN:Hid (C[7]? =some (.int .i64 S.va.k)∧C[8]? =some (.string S.va.t)∧C[9]? =some (.int .i64 S.va.n)∧C[10]? =some (.string S.va.nm)∧C[11]? =some (.slice S.va.xa S.va.len S.va.cap)):=ab (by rw[hC];exact⟨rfl,rfl,rfl,rfl,rfl⟩)
 have qf:Hid (C[17]? =some (.string S.nm)∧C[18]? =some (.string S.en)∧C[19]? =some S.ps.v∧C[20]? =some S.ls.v):=ab (by rw[hC];exact⟨rfl,rfl,rfl,rfl⟩)
 have eT:C[0]? =some (.string S.lab):=by rw[hC];rfl
 have dF:C[1]? =some (.int .i64 S.k):=by rw[hC];rfl
 have dp:=ab dF;rw[dI];obtain⟨w1,aI⟩:∃w1,w1=w.alloc (.cells C 30):=⟨_,rfl⟩;have bp:Below w.heap.size w w1:=by rw[aI];exact ba _
 have am:w1.heap[w.heap.size]? =some (.cells C 30 (0,0)):=by rw[aI];exact ax rfl
 have H1:=ab ((Wn.start hb hW).below bp);have bA:=ab am;have bL:Hid (w1.heap.size=w.heap.size+1):=ab (by rw[aI];simp)
 have bG:Hid (w.alloc (.cells C 30)=w1):=ab (aI.symm);have HZ:=ab (And.intro hE hz);have iV:=ab eJ;have iv:Hid (ar (if S.lab.size=0 then [] else [wd S.lab])=S.lab.data.toList):=ab (by
  by_cases q:S.lab.size=0
  ·rw[af q];exact(kG (by rw[eQ];exact q)).symm
  ·rw[ac q];exact lf _)
 have c0:=bB am eT;have c1:=bB am dF;rw[aI] at c0 c1;clear hE hb hW bp am aI hC dI eJ fU eC eT dF;rw[hk] at c1 dp;have ip:S.va.wrongX=0:=by
  unfold SV.kndE at co;rw[hk] at co;exact co
 have ww:=(ft ip).2;have Cr:=wV (ft ip).1;clear ip;have HI:Hid (ar (bT S)=S.lab.data.toList++(([32]++ar (S.va.atl 0))++ar (dx S))):=ab (by
  unfold bT iA;rw[fW,fW,aa iv,hk];show _++(ar (bl::S.va.exI)++_)=_;rw[dq,um];rfl)
 clear co hk iv;have cg:Hid (Calls prog 42 #[.pointer (some ⟨z,0,none⟩),.slice (some ⟨w1.heap.size,0,none⟩) 1 1] (w1.alloc (.cells #[.string S.lab] 9)) _):=ab ((aa H1).put (aa HZ).1 (aa HZ).2 (by omega) [S.lab] (by simp) (fun t ht=>by simp only[dO,eg,fN] at ht;subst ht;omega) 16 (by show (bH [S.lab]).length≤16;unfold bH;simp only[gU,iE,be,List.length_nil,eQ];omega))
 rw[aa bL] at cg;go_enter func20,ntmps20;go_wp2_with fail;rw[aa bG];refine(aa cg).mono ?_;rintro e w2 ⟨rfl,v2,o2,f2,h2,cJ⟩;have cV:=ab (cJ.keep (aa H1).wr (aa bA) (by decide) bX)
 have H2:=ab h2;clear h2 cJ cg H1;clear c0 c1;have c1:=bB (aa cV) (aa dp);have e32:(ah 32).size=1:=rfl;have dz:Hid (Calls prog 42 #[.pointer (some ⟨z,0,none⟩),.slice (some ⟨w2.heap.size,0,none⟩) 1 1] (w2.alloc (.cells #[.string ⟨#[32]⟩] 9)) _):=ab ((aa H2).put (aa HZ).1 (aa HZ).2 (by omega) [ah 32] (by simp) (fun t ht=>by simp only[dO,eg,fN] at ht;subst ht;omega) 1 (by show (bH [ah 32]).length≤1;unfold bH;simp only[gU,iE,be,List.length_nil,eQ];omega))
 go_wp2_with fail;refine(aa dz).mono ?_;rintro e w3 ⟨rfl,v3,o3,f3,h3,dl⟩;have dc:=ab (dl.keep (aa H2).wr (aa cV) (by decide) bX)
 have H3:=ab h3;clear h3 dl dz H2;clear c1;have c1:=bB (aa dc) (aa dp);have cS:Hid (Calls prog 43 #[.pointer (some ⟨z,0,none⟩),.agg #[.int .i64 S.va.k,.string S.va.t,.int .i64 S.va.n,.string S.va.nm,.slice S.va.xa S.va.len S.va.cap],.int .i64 0] w3 fun e w'=>ik B z w3 v3 o3 (ar (S.va.atl 0)) f3 (40 * S.va.cnt) e w'):=ab (wW S.va W w3 B z v3 o3 f3 0 (aa HZ).1 (aa iV).va (aa H3).bel (aa HZ).2 (aa H3).wr ww ((aa H3).len2 (by omega)))
 obtain⟨m0,m1,m2,m3,m4⟩:=aa gN;have g0:=bB (aa dc) m0;have g1:=bB (aa dc) m1;have g2:=bB (aa dc) m2;have g3:=bB (aa dc) m3;have g4:=bB (aa dc) m4;clear m0 m1 m2 m3 m4;go_wp2_with fail;refine(aa cS).mono ?_;rintro e w4 ⟨rfl,bg⟩;obtain⟨v4,o4,f4,h4,cv⟩:=(aa H3).sub (aa HZ).2 bg;have lN:=ab (cv.keep (aa H3).wr (aa dc) (by decide) bX)
 have H4:=ab h4;clear bg h4 cv cS H3 g0 g1 g2 g3 g4;clear c1;have gr:=ab (vR S (aa HZ).1 (aa H4).bel (aa HZ).2 (aa H4).wr oW oV jO ((aa H4).len2 (by omega)))
 rw[aa gn] at gr;go_wp2_with (first
  | (refine io rfl 30 _ rfl w.heap.size rfl 30 C (0,0) _ (aa lN) underlying30 rfl (pN.trans (by rw[aa iF])) ?_)
  | fail)
 refine(aa gr).mono ?_;rintro e w5 ⟨rfl,bg⟩;obtain⟨v5,o5,f5,h5, -⟩:=(aa H4).sub (aa HZ).2 bg;have HF:=ab (h5.done (t:=ar (bT S)) (c:=500000) (by rw[aa HI];rw[fw,fw];show []++S.lab.data.toList++[32]++ar (S.va.atl 0)++ar (dx S)=_;simp) (by omega))
 clear bg h5 gr H4;go_wp2_with fail;go_end0;exact⟨rfl,aa HF⟩
theorem stm_3 (S:SV) (pt:ByteArray) {W w:World} {B z:Nat} {v:Value} {o:List UInt8} {f:Bool} (hk:S.k=3) (hE:EnvW W) (hb:Below W.heap.size W w) (hz:W.heap.size≤z) (hW:WrI B z w v o f) (eJ:S.In W) (fU:S.wrong=0) (ho:max o.length 140000+500000≤9000000):
  Calls prog 20 #[.pointer (some ⟨z,0,none⟩),S.v,.string pt] w fun e w'=>ik B z w v o (ar (bT S)) f 500000 e w':=by
 have hzl:z < w.heap.size:=(bC.1 hW.blk).1;have bX:w.heap.size≠z:=by omega
 obtain⟨eC,co⟩:=qE fU;have mM:=g5 eC.lab;have oW:=g5 eC.al;have oV:=g5 eC.ye;have jO:=g5 eC.no;obtain⟨C,hC⟩:∃C,C=S.cells:=⟨_,rfl⟩;have dI:S.v=.agg C:=by rw[hC];rfl
 have gn:=ab dI;have iF:Hid (C.size=24):=ab (by rw[hC];rfl)
 have jN:Hid (C[2]? =some (.int .i64 S.tg.k)∧C[3]? =some (.string S.tg.t)∧C[4]? =some (.int .i64 S.tg.n)∧C[5]? =some (.string S.tg.nm)∧C[6]? =some (.slice S.tg.xa S.tg.len S.tg.cap)):=ab (by rw[hC];exact⟨rfl,rfl,rfl,rfl,rfl⟩)
 have gN:Hid (C[7]? =some (.int .i64 S.va.k)∧C[8]? =some (.string S.va.t)∧C[9]? =some (.int .i64 S.va.n)∧C[10]? =some (.string S.va.nm)∧C[11]? =some (.slice S.va.xa S.va.len S.va.cap)):=ab (by rw[hC];exact⟨rfl,rfl,rfl,rfl,rfl⟩)
 have qf:Hid (C[17]? =some (.string S.nm)∧C[18]? =some (.string S.en)∧C[19]? =some S.ps.v∧C[20]? =some S.ls.v):=ab (by rw[hC];exact⟨rfl,rfl,rfl,rfl⟩)
 have eT:C[0]? =some (.string S.lab):=by rw[hC];rfl
 have dF:C[1]? =some (.int .i64 S.k):=by rw[hC];rfl
 have dp:=ab dF;rw[dI];obtain⟨w1,aI⟩:∃w1,w1=w.alloc (.cells C 30):=⟨_,rfl⟩;have bp:Below w.heap.size w w1:=by rw[aI];exact ba _
 have am:w1.heap[w.heap.size]? =some (.cells C 30 (0,0)):=by rw[aI];exact ax rfl
 have H1:=ab ((Wn.start hb hW).below bp);have bA:=ab am;have bL:Hid (w1.heap.size=w.heap.size+1):=ab (by rw[aI];simp)
 have bG:Hid (w.alloc (.cells C 30)=w1):=ab (aI.symm);have HZ:=ab (And.intro hE hz);have iV:=ab eJ;have iv:Hid (ar (if S.lab.size=0 then [] else [wd S.lab])=S.lab.data.toList):=ab (by
  by_cases q:S.lab.size=0
  ·rw[af q];exact(kG (by rw[eQ];exact q)).symm
  ·rw[ac q];exact lf _)
 have c0:=bB am eT;have c1:=bB am dF;rw[aI] at c0 c1;clear hE hb hW bp am aI hC dI eJ fU eC eT dF;rw[hk] at c1 dp;have hq:ek [lT S.tg,S.va.wrongX]=0:=by
  unfold SV.kndE at co;rw[hk] at co;exact co
 have lm:=(rR (cH hq).1).1;have ip:=(cH (cH hq).2).1;have ww:=(ft ip).2;have Cr:=wV (ft ip).1;have Cw:=(ft lm).2;have hn_tg:=wV (ft lm).1;clear hq lm ip;have e3:xz.size=3:=rfl;have HI:Hid (ar (bT S)=S.lab.data.toList++(([32]++(ar (S.tg.atl 0)++([32,61,32]++ar (S.va.atl 0))))++ar (dx S))):=ab (by
  unfold bT iA;rw[fW,fW,aa iv,hk];show _++(ar (bl::(S.tg.exI++(bl::sg 61::bl::S.va.exI)))++_)=_;rw[dq,fW,dq,dq,dq,um,um];rfl)
 clear co hk iv;have cg:Hid (Calls prog 42 #[.pointer (some ⟨z,0,none⟩),.slice (some ⟨w1.heap.size,0,none⟩) 1 1] (w1.alloc (.cells #[.string S.lab] 9)) _):=ab ((aa H1).put (aa HZ).1 (aa HZ).2 (by omega) [S.lab] (by simp) (fun t ht=>by simp only[dO,eg,fN] at ht;subst ht;omega) 16 (by show (bH [S.lab]).length≤16;unfold bH;simp only[gU,iE,be,List.length_nil,eQ];omega))
 rw[aa bL] at cg;go_enter func20,ntmps20;go_wp2_with fail;rw[aa bG];refine(aa cg).mono ?_;rintro e w2 ⟨rfl,v2,o2,f2,h2,cJ⟩;have cV:=ab (cJ.keep (aa H1).wr (aa bA) (by decide) bX)
 have H2:=ab h2;clear h2 cJ cg H1;clear c0 c1;have c1:=bB (aa cV) (aa dp);have e32:(ah 32).size=1:=rfl;have dz:Hid (Calls prog 42 #[.pointer (some ⟨z,0,none⟩),.slice (some ⟨w2.heap.size,0,none⟩) 1 1] (w2.alloc (.cells #[.string ⟨#[32]⟩] 9)) _):=ab ((aa H2).put (aa HZ).1 (aa HZ).2 (by omega) [ah 32] (by simp) (fun t ht=>by simp only[dO,eg,fN] at ht;subst ht;omega) 1 (by show (bH [ah 32]).length≤1;unfold bH;simp only[gU,iE,be,List.length_nil,eQ];omega))
 go_wp2_with fail;refine(aa dz).mono ?_;rintro e w3 ⟨rfl,v3,o3,f3,h3,dl⟩;have dc:=ab (dl.keep (aa H2).wr (aa cV) (by decide) bX)
 have H3:=ab h3;clear h3 dl dz H2;clear c1;have c1:=bB (aa dc) (aa dp);have cS:Hid (Calls prog 43 #[.pointer (some ⟨z,0,none⟩),.agg #[.int .i64 S.tg.k,.string S.tg.t,.int .i64 S.tg.n,.string S.tg.nm,.slice S.tg.xa S.tg.len S.tg.cap],.int .i64 0] w3 fun e w'=>ik B z w3 v3 o3 (ar (S.tg.atl 0)) f3 (40 * S.tg.cnt) e w'):=ab (wW S.tg W w3 B z v3 o3 f3 0 (aa HZ).1 (aa iV).tg (aa H3).bel (aa HZ).2 (aa H3).wr Cw ((aa H3).len2 (by omega)))
 obtain⟨m0,m1,m2,m3,m4⟩:=aa jN;have g0:=bB (aa dc) m0;have g1:=bB (aa dc) m1;have g2:=bB (aa dc) m2;have g3:=bB (aa dc) m3;have g4:=bB (aa dc) m4;clear m0 m1 m2 m3 m4;go_wp2_with fail;refine(aa cS).mono ?_;rintro e w4 ⟨rfl,bg⟩;obtain⟨v4,o4,f4,h4,cv⟩:=(aa H3).sub (aa HZ).2 bg;have lN:=ab (cv.keep (aa H3).wr (aa dc) (by decide) bX)
 have H4:=ab h4;clear bg h4 cv cS H3 g0 g1 g2 g3 g4;clear c1;have ig:Hid (Calls prog 42 #[.pointer (some ⟨z,0,none⟩),.slice (some ⟨w4.heap.size,0,none⟩) 1 1] (w4.alloc (.cells #[.string ⟨#[32,61,32]⟩] 9)) _):=ab ((aa H4).put (aa HZ).1 (aa HZ).2 (by omega) [xz] (by simp) (fun t ht=>by simp only[dO,eg,fN] at ht;subst ht;omega) 3 (by show (bH [xz]).length≤3;unfold bH;simp only[gU,iE,be,List.length_nil,eQ];omega))
 go_wp2_with fail;refine(aa ig).mono ?_;rintro e w5 ⟨rfl,v5,o5,f5,h5,gd⟩;have jw:=ab (gd.keep (aa H4).wr (aa lN) (by decide) bX)
 have H5:=ab h5;clear h5 gd ig H4;have pC:Hid (Calls prog 43 #[.pointer (some ⟨z,0,none⟩),.agg #[.int .i64 S.va.k,.string S.va.t,.int .i64 S.va.n,.string S.va.nm,.slice S.va.xa S.va.len S.va.cap],.int .i64 0] w5 fun e w'=>ik B z w5 v5 o5 (ar (S.va.atl 0)) f5 (40 * S.va.cnt) e w'):=ab (wW S.va W w5 B z v5 o5 f5 0 (aa HZ).1 (aa iV).va (aa H5).bel (aa HZ).2 (aa H5).wr ww ((aa H5).len2 (by omega)))
 obtain⟨m0,m1,m2,m3,m4⟩:=aa gN;have g0:=bB (aa jw) m0;have g1:=bB (aa jw) m1;have g2:=bB (aa jw) m2;have g3:=bB (aa jw) m3;have g4:=bB (aa jw) m4;clear m0 m1 m2 m3 m4;go_wp2_with fail;refine(aa pC).mono ?_;rintro e w6 ⟨rfl,bg⟩;obtain⟨v6,o6,f6,h6,l7⟩:=(aa H5).sub (aa HZ).2 bg;have li:=ab (l7.keep (aa H5).wr (aa jw) (by decide) bX)
 have H6:=ab h6;clear bg h6 l7 pC H5 g0 g1 g2 g3 g4;have pB:=ab (vR S (aa HZ).1 (aa H6).bel (aa HZ).2 (aa H6).wr oW oV jO ((aa H6).len2 (by omega)))
 rw[aa gn] at pB;go_wp2_with (first
  | (refine io rfl 30 _ rfl w.heap.size rfl 30 C (0,0) _ (aa li) underlying30 rfl (pN.trans (by rw[aa iF])) ?_)
  | fail)
 refine(aa pB).mono ?_;rintro e w7 ⟨rfl,bg⟩;obtain⟨v7,o7,f7,h7, -⟩:=(aa H6).sub (aa HZ).2 bg;have HF:=ab (h7.done (t:=ar (bT S)) (c:=500000) (by rw[aa HI];rw[fw,fw,fw];show []++S.lab.data.toList++[32]++ar (S.tg.atl 0)++[32,61,32]++ar (S.va.atl 0)++ar (dx S)=_;simp) (by omega))
 clear bg h7 pB H6;go_wp2_with fail;go_end0;exact⟨rfl,aa HF⟩
theorem stm_4 (S:SV) (pt:ByteArray) {W w:World} {B z:Nat} {v:Value} {o:List UInt8} {f:Bool} (hk:S.k=4) (hE:EnvW W) (hb:Below W.heap.size W w) (hz:W.heap.size≤z) (hW:WrI B z w v o f) (eJ:S.In W) (fU:S.wrong=0) (hp:pt.data.toList=91::(S.pa.txt++[93])) (lQ:pt.size≤65538) (ho:max o.length 140000+500000≤9000000):
  Calls prog 20 #[.pointer (some ⟨z,0,none⟩),S.v,.string pt] w fun e w'=>ik B z w v o (ar (bT S)) f 500000 e w':=by
 have hzl:z < w.heap.size:=(bC.1 hW.blk).1;have bX:w.heap.size≠z:=by omega
 obtain⟨eC,co⟩:=qE fU;have mM:=g5 eC.lab;have oW:=g5 eC.al;have oV:=g5 eC.ye;have jO:=g5 eC.no;obtain⟨C,hC⟩:∃C,C=S.cells:=⟨_,rfl⟩;have dI:S.v=.agg C:=by rw[hC];rfl
 have gn:=ab dI;have iF:Hid (C.size=24):=ab (by rw[hC];rfl)
 have jN:Hid (C[2]? =some (.int .i64 S.tg.k)∧C[3]? =some (.string S.tg.t)∧C[4]? =some (.int .i64 S.tg.n)∧C[5]? =some (.string S.tg.nm)∧C[6]? =some (.slice S.tg.xa S.tg.len S.tg.cap)):=ab (by rw[hC];exact⟨rfl,rfl,rfl,rfl,rfl⟩)
 have gN:Hid (C[7]? =some (.int .i64 S.va.k)∧C[8]? =some (.string S.va.t)∧C[9]? =some (.int .i64 S.va.n)∧C[10]? =some (.string S.va.nm)∧C[11]? =some (.slice S.va.xa S.va.len S.va.cap)):=ab (by rw[hC];exact⟨rfl,rfl,rfl,rfl,rfl⟩)
 have qf:Hid (C[17]? =some (.string S.nm)∧C[18]? =some (.string S.en)∧C[19]? =some S.ps.v∧C[20]? =some S.ls.v):=ab (by rw[hC];exact⟨rfl,rfl,rfl,rfl⟩)
 have eT:C[0]? =some (.string S.lab):=by rw[hC];rfl
 have dF:C[1]? =some (.int .i64 S.k):=by rw[hC];rfl
 have dp:=ab dF;rw[dI];obtain⟨w1,aI⟩:∃w1,w1=w.alloc (.cells C 30):=⟨_,rfl⟩;have bp:Below w.heap.size w w1:=by rw[aI];exact ba _
 have am:w1.heap[w.heap.size]? =some (.cells C 30 (0,0)):=by rw[aI];exact ax rfl
 have H1:=ab ((Wn.start hb hW).below bp);have bA:=ab am;have bL:Hid (w1.heap.size=w.heap.size+1):=ab (by rw[aI];simp)
 have bG:Hid (w.alloc (.cells C 30)=w1):=ab (aI.symm);have HZ:=ab (And.intro hE hz);have iV:=ab eJ;have iv:Hid (ar (if S.lab.size=0 then [] else [wd S.lab])=S.lab.data.toList):=ab (by
  by_cases q:S.lab.size=0
  ·rw[af q];exact(kG (by rw[eQ];exact q)).symm
  ·rw[ac q];exact lf _)
 have c0:=bB am eT;have c1:=bB am dF;rw[aI] at c0 c1;clear hE hb hW bp am aI hC dI eJ fU eC eT dF;rw[hk] at c1 dp;have hq:ek [S.va.wrongX,S.pa.wrong]=0:=by
  unfold SV.kndE at co;rw[hk] at co;exact co
 have ip:=(cH hq).1;have ww:=(ft ip).2;have Cr:=wV (ft ip).1;clear hq ip;have e3:xy.size=3:=rfl;obtain⟨cP,hcP⟩:∃cP:Nat,cP=65541:=⟨_,rfl⟩;have HI:Hid (ar (bT S)=S.lab.data.toList++(([32]++(ar (S.va.atl 0)++([32,63,32]++pt.data.toList)))++ar (dx S))):=ab (by
  unfold bT iA;rw[fW,fW,aa iv,hk];show _++(ar (bl::(S.va.exI++(bl::sg 63::bl::[td S])))++_)=_;rw[dq,fW,dq,dq,dq,dq,um,hp];show _++(([32]++(ar S.va.exI++([32]++([63]++([32]++((91::(S.pa.txt++[93]))++[]))))))++_)=_;simp)
 clear co hk iv;have cg:Hid (Calls prog 42 #[.pointer (some ⟨z,0,none⟩),.slice (some ⟨w1.heap.size,0,none⟩) 1 1] (w1.alloc (.cells #[.string S.lab] 9)) _):=ab ((aa H1).put (aa HZ).1 (aa HZ).2 (by omega) [S.lab] (by simp) (fun t ht=>by simp only[dO,eg,fN] at ht;subst ht;omega) 16 (by show (bH [S.lab]).length≤16;unfold bH;simp only[gU,iE,be,List.length_nil,eQ];omega))
 rw[aa bL] at cg;go_enter func20,ntmps20;go_wp2_with fail;rw[aa bG];refine(aa cg).mono ?_;rintro e w2 ⟨rfl,v2,o2,f2,h2,cJ⟩;have cV:=ab (cJ.keep (aa H1).wr (aa bA) (by decide) bX)
 have H2:=ab h2;clear h2 cJ cg H1;clear c0 c1;have c1:=bB (aa cV) (aa dp);have e32:(ah 32).size=1:=rfl;have dz:Hid (Calls prog 42 #[.pointer (some ⟨z,0,none⟩),.slice (some ⟨w2.heap.size,0,none⟩) 1 1] (w2.alloc (.cells #[.string ⟨#[32]⟩] 9)) _):=ab ((aa H2).put (aa HZ).1 (aa HZ).2 (by omega) [ah 32] (by simp) (fun t ht=>by simp only[dO,eg,fN] at ht;subst ht;omega) 1 (by show (bH [ah 32]).length≤1;unfold bH;simp only[gU,iE,be,List.length_nil,eQ];omega))
 go_wp2_with fail;refine(aa dz).mono ?_;rintro e w3 ⟨rfl,v3,o3,f3,h3,dl⟩;have dc:=ab (dl.keep (aa H2).wr (aa cV) (by decide) bX)
 have H3:=ab h3;clear h3 dl dz H2;clear c1;have c1:=bB (aa dc) (aa dp);have cS:Hid (Calls prog 43 #[.pointer (some ⟨z,0,none⟩),.agg #[.int .i64 S.va.k,.string S.va.t,.int .i64 S.va.n,.string S.va.nm,.slice S.va.xa S.va.len S.va.cap],.int .i64 0] w3 fun e w'=>ik B z w3 v3 o3 (ar (S.va.atl 0)) f3 (40 * S.va.cnt) e w'):=ab (wW S.va W w3 B z v3 o3 f3 0 (aa HZ).1 (aa iV).va (aa H3).bel (aa HZ).2 (aa H3).wr ww ((aa H3).len2 (by omega)))
 obtain⟨m0,m1,m2,m3,m4⟩:=aa gN;have g0:=bB (aa dc) m0;have g1:=bB (aa dc) m1;have g2:=bB (aa dc) m2;have g3:=bB (aa dc) m3;have g4:=bB (aa dc) m4;clear m0 m1 m2 m3 m4;go_wp2_with fail;refine(aa cS).mono ?_;rintro e w4 ⟨rfl,bg⟩;obtain⟨v4,o4,f4,h4,cv⟩:=(aa H3).sub (aa HZ).2 bg;have lN:=ab (cv.keep (aa H3).wr (aa dc) (by decide) bX)
 have H4:=ab h4;clear bg h4 cv cS H3 g0 g1 g2 g3 g4;clear c1;have ig:Hid (Calls prog 42 #[.pointer (some ⟨z,0,none⟩),.slice (some ⟨w4.heap.size,0,none⟩) 2 2] (w4.alloc (.cells #[.string ⟨#[32,63,32]⟩,.string pt] 9)) _):=ab ((aa H4).put (aa HZ).1 (aa HZ).2 (by omega) [xy,pt] (by simp) (fun t ht=>by simp only[dO,eg,fN] at ht;rcases ht with rfl | rfl <;> omega) cP (by show (bH [xy,pt]).length≤cP;unfold bH;simp only[gU,iE,be,List.length_nil,eQ];omega))
 go_wp2_with fail;refine(aa ig).mono ?_;rintro e w5 ⟨rfl,v5,o5,f5,h5,gd⟩;have jw:=ab (gd.keep (aa H4).wr (aa lN) (by decide) bX)
 have H5:=ab h5;clear h5 gd ig H4;have pC:=ab (vR S (aa HZ).1 (aa H5).bel (aa HZ).2 (aa H5).wr oW oV jO ((aa H5).len2 (by omega)))
 rw[aa gn] at pC;go_wp2_with (first
  | (refine io rfl 30 _ rfl w.heap.size rfl 30 C (0,0) _ (aa jw) underlying30 rfl (pN.trans (by rw[aa iF])) ?_)
  | fail)
 refine(aa pC).mono ?_;rintro e w6 ⟨rfl,bg⟩;obtain⟨v6,o6,f6,h6, -⟩:=(aa H5).sub (aa HZ).2 bg;have HF:=ab (h6.done (t:=ar (bT S)) (c:=500000) (by rw[aa HI];rw[fw,fw,kx,fw];show []++S.lab.data.toList++[32]++ar (S.va.atl 0)++([32,63,32]++pt.data.toList)++ar (dx S)=_;simp) (by omega))
 clear bg h6 pC H5;go_wp2_with fail;go_end0;exact⟨rfl,aa HF⟩
theorem stm_5 (S:SV) (pt:ByteArray) {W w:World} {B z:Nat} {v:Value} {o:List UInt8} {f:Bool} (hk:S.k=5) (hE:EnvW W) (hb:Below W.heap.size W w) (hz:W.heap.size≤z) (hW:WrI B z w v o f) (eJ:S.In W) (fU:S.wrong=0) (hp:pt.data.toList=91::(S.pa.txt++[93])) (lQ:pt.size≤65538) (ho:max o.length 140000+500000≤9000000):
  Calls prog 20 #[.pointer (some ⟨z,0,none⟩),S.v,.string pt] w fun e w'=>ik B z w v o (ar (bT S)) f 500000 e w':=by
 have hzl:z < w.heap.size:=(bC.1 hW.blk).1;have bX:w.heap.size≠z:=by omega
 obtain⟨eC,co⟩:=qE fU;have mM:=g5 eC.lab;have oW:=g5 eC.al;have oV:=g5 eC.ye;have jO:=g5 eC.no;obtain⟨C,hC⟩:∃C,C=S.cells:=⟨_,rfl⟩;have dI:S.v=.agg C:=by rw[hC];rfl
 have gn:=ab dI;have iF:Hid (C.size=24):=ab (by rw[hC];rfl)
 have jN:Hid (C[2]? =some (.int .i64 S.tg.k)∧C[3]? =some (.string S.tg.t)∧C[4]? =some (.int .i64 S.tg.n)∧C[5]? =some (.string S.tg.nm)∧C[6]? =some (.slice S.tg.xa S.tg.len S.tg.cap)):=ab (by rw[hC];exact⟨rfl,rfl,rfl,rfl,rfl⟩)
 have gN:Hid (C[7]? =some (.int .i64 S.va.k)∧C[8]? =some (.string S.va.t)∧C[9]? =some (.int .i64 S.va.n)∧C[10]? =some (.string S.va.nm)∧C[11]? =some (.slice S.va.xa S.va.len S.va.cap)):=ab (by rw[hC];exact⟨rfl,rfl,rfl,rfl,rfl⟩)
 have qf:Hid (C[17]? =some (.string S.nm)∧C[18]? =some (.string S.en)∧C[19]? =some S.ps.v∧C[20]? =some S.ls.v):=ab (by rw[hC];exact⟨rfl,rfl,rfl,rfl⟩)
 have eT:C[0]? =some (.string S.lab):=by rw[hC];rfl
 have dF:C[1]? =some (.int .i64 S.k):=by rw[hC];rfl
 have dp:=ab dF;rw[dI];obtain⟨w1,aI⟩:∃w1,w1=w.alloc (.cells C 30):=⟨_,rfl⟩;have bp:Below w.heap.size w w1:=by rw[aI];exact ba _
 have am:w1.heap[w.heap.size]? =some (.cells C 30 (0,0)):=by rw[aI];exact ax rfl
 have H1:=ab ((Wn.start hb hW).below bp);have bA:=ab am;have bL:Hid (w1.heap.size=w.heap.size+1):=ab (by rw[aI];simp)
 have bG:Hid (w.alloc (.cells C 30)=w1):=ab (aI.symm);have HZ:=ab (And.intro hE hz);have iV:=ab eJ;have iv:Hid (ar (if S.lab.size=0 then [] else [wd S.lab])=S.lab.data.toList):=ab (by
  by_cases q:S.lab.size=0
  ·rw[af q];exact(kG (by rw[eQ];exact q)).symm
  ·rw[ac q];exact lf _)
 have c0:=bB am eT;have c1:=bB am dF;rw[aI] at c0 c1;clear hE hb hW bp am aI hC dI eJ fU eC eT dF;rw[hk] at c1 dp;have hq:ek [lT S.tg,S.pa.wrong,S.va.wrongX]=0:=by
  unfold SV.kndE at co;rw[hk] at co;exact co
 have lm:=(rR (cH hq).1).1;have ip:=(cH (cH (cH hq).2).2).1;have ww:=(ft ip).2;have Cr:=wV (ft ip).1;have Cw:=(ft lm).2;have hn_tg:=wV (ft lm).1;clear hq lm ip;have e3:xy.size=3:=rfl;have e4:xz.size=3:=rfl;have HI:Hid (ar (bT S)=S.lab.data.toList++(([32]++(ar (S.tg.atl 0)++(([32,63,32]++(pt.data.toList++[32,61,32]))++ar (S.va.atl 0))))++ar (dx S))):=ab (by
  unfold bT iA;rw[fW,fW,aa iv,hk];show _++(ar (bl::(S.tg.exI++(bl::sg 63::bl::td S::bl::sg 61::bl::S.va.exI)))++_)=_;rw[dq,fW,dq,dq,dq,dq,dq,dq,dq,um,um,hp];show _++(([32]++(ar S.tg.exI++([32]++([63]++([32]++((91::(S.pa.txt++[93]))++([32]++([61]++([32]++ar S.va.exI)))))))))++_)=_;simp)
 clear co hk iv;have cg:Hid (Calls prog 42 #[.pointer (some ⟨z,0,none⟩),.slice (some ⟨w1.heap.size,0,none⟩) 1 1] (w1.alloc (.cells #[.string S.lab] 9)) _):=ab ((aa H1).put (aa HZ).1 (aa HZ).2 (by omega) [S.lab] (by simp) (fun t ht=>by simp only[dO,eg,fN] at ht;subst ht;omega) 16 (by show (bH [S.lab]).length≤16;unfold bH;simp only[gU,iE,be,List.length_nil,eQ];omega))
 rw[aa bL] at cg;go_enter func20,ntmps20;go_wp2_with fail;rw[aa bG];refine(aa cg).mono ?_;rintro e w2 ⟨rfl,v2,o2,f2,h2,cJ⟩;have cV:=ab (cJ.keep (aa H1).wr (aa bA) (by decide) bX)
 have H2:=ab h2;clear h2 cJ cg H1;clear c0 c1;have c1:=bB (aa cV) (aa dp);have e32:(ah 32).size=1:=rfl;have dz:Hid (Calls prog 42 #[.pointer (some ⟨z,0,none⟩),.slice (some ⟨w2.heap.size,0,none⟩) 1 1] (w2.alloc (.cells #[.string ⟨#[32]⟩] 9)) _):=ab ((aa H2).put (aa HZ).1 (aa HZ).2 (by omega) [ah 32] (by simp) (fun t ht=>by simp only[dO,eg,fN] at ht;subst ht;omega) 1 (by show (bH [ah 32]).length≤1;unfold bH;simp only[gU,iE,be,List.length_nil,eQ];omega))
 go_wp2_with fail;refine(aa dz).mono ?_;rintro e w3 ⟨rfl,v3,o3,f3,h3,dl⟩;have dc:=ab (dl.keep (aa H2).wr (aa cV) (by decide) bX)
 have H3:=ab h3;clear h3 dl dz H2;clear c1;have c1:=bB (aa dc) (aa dp);have cS:Hid (Calls prog 43 #[.pointer (some ⟨z,0,none⟩),.agg #[.int .i64 S.tg.k,.string S.tg.t,.int .i64 S.tg.n,.string S.tg.nm,.slice S.tg.xa S.tg.len S.tg.cap],.int .i64 0] w3 fun e w'=>ik B z w3 v3 o3 (ar (S.tg.atl 0)) f3 (40 * S.tg.cnt) e w'):=ab (wW S.tg W w3 B z v3 o3 f3 0 (aa HZ).1 (aa iV).tg (aa H3).bel (aa HZ).2 (aa H3).wr Cw ((aa H3).len2 (by omega)))
 obtain⟨m0,m1,m2,m3,m4⟩:=aa jN;have g0:=bB (aa dc) m0;have g1:=bB (aa dc) m1;have g2:=bB (aa dc) m2;have g3:=bB (aa dc) m3;have g4:=bB (aa dc) m4;clear m0 m1 m2 m3 m4;go_wp2_with fail;refine(aa cS).mono ?_;rintro e w4 ⟨rfl,bg⟩;obtain⟨v4,o4,f4,h4,cv⟩:=(aa H3).sub (aa HZ).2 bg;have lN:=ab (cv.keep (aa H3).wr (aa dc) (by decide) bX)
 have H4:=ab h4;clear bg h4 cv cS H3 g0 g1 g2 g3 g4;clear c1;have ig:Hid (Calls prog 42 #[.pointer (some ⟨z,0,none⟩),.slice (some ⟨w4.heap.size,0,none⟩) 3 3] (w4.alloc (.cells #[.string ⟨#[32,63,32]⟩,.string pt,.string ⟨#[32,61,32]⟩] 9)) _):=ab ((aa H4).put (aa HZ).1 (aa HZ).2 (by omega) [xy,pt,xz] (by simp) (fun t ht=>by simp only[dO,eg,fN] at ht;rcases ht with rfl | rfl | rfl <;> omega) 65544 (by show (bH [xy,pt,xz]).length≤65544;unfold bH;simp only[gU,iE,be,List.length_nil,eQ];omega))
 go_wp2_with fail;refine(aa ig).mono ?_;rintro e w5 ⟨rfl,v5,o5,f5,h5,gd⟩;have jw:=ab (gd.keep (aa H4).wr (aa lN) (by decide) bX)
 have H5:=ab h5;clear h5 gd ig H4;have pC:Hid (Calls prog 43 #[.pointer (some ⟨z,0,none⟩),.agg #[.int .i64 S.va.k,.string S.va.t,.int .i64 S.va.n,.string S.va.nm,.slice S.va.xa S.va.len S.va.cap],.int .i64 0] w5 fun e w'=>ik B z w5 v5 o5 (ar (S.va.atl 0)) f5 (40 * S.va.cnt) e w'):=ab (wW S.va W w5 B z v5 o5 f5 0 (aa HZ).1 (aa iV).va (aa H5).bel (aa HZ).2 (aa H5).wr ww ((aa H5).len2 (by omega)))
 obtain⟨m0,m1,m2,m3,m4⟩:=aa gN;have g0:=bB (aa jw) m0;have g1:=bB (aa jw) m1;have g2:=bB (aa jw) m2;have g3:=bB (aa jw) m3;have g4:=bB (aa jw) m4;clear m0 m1 m2 m3 m4;go_wp2_with fail;refine(aa pC).mono ?_;rintro e w6 ⟨rfl,bg⟩;obtain⟨v6,o6,f6,h6,l7⟩:=(aa H5).sub (aa HZ).2 bg;have li:=ab (l7.keep (aa H5).wr (aa jw) (by decide) bX)
 have H6:=ab h6;clear bg h6 l7 pC H5 g0 g1 g2 g3 g4;have pB:=ab (vR S (aa HZ).1 (aa H6).bel (aa HZ).2 (aa H6).wr oW oV jO ((aa H6).len2 (by omega)))
 rw[aa gn] at pB;go_wp2_with (first
  | (refine io rfl 30 _ rfl w.heap.size rfl 30 C (0,0) _ (aa li) underlying30 rfl (pN.trans (by rw[aa iF])) ?_)
  | fail)
 refine(aa pB).mono ?_;rintro e w7 ⟨rfl,bg⟩;obtain⟨v7,o7,f7,h7, -⟩:=(aa H6).sub (aa HZ).2 bg;have HF:=ab (h7.done (t:=ar (bT S)) (c:=500000) (by rw[aa HI];rw[fw,fw,kx,kx,fw];show []++S.lab.data.toList++[32]++ar (S.tg.atl 0)++([32,63,32]++(pt.data.toList++[32,61,32]))++ar (S.va.atl 0)++ar (dx S)=_;simp) (by omega))
 clear bg h7 pB H6;go_wp2_with fail;go_end0;exact⟨rfl,aa HF⟩
theorem stm_6 (S:SV) (pt:ByteArray) {W w:World} {B z:Nat} {v:Value} {o:List UInt8} {f:Bool} (hk:S.k=6) (hE:EnvW W) (hb:Below W.heap.size W w) (hz:W.heap.size≤z) (hW:WrI B z w v o f) (eJ:S.In W) (fU:S.wrong=0) (hp:pt.data.toList=91::(S.pa.txt++[93])) (lQ:pt.size≤65538) (ho:max o.length 140000+500000≤9000000):
  Calls prog 20 #[.pointer (some ⟨z,0,none⟩),S.v,.string pt] w fun e w'=>ik B z w v o (ar (bT S)) f 500000 e w':=by
 have hzl:z < w.heap.size:=(bC.1 hW.blk).1;have bX:w.heap.size≠z:=by omega
 obtain⟨eC,co⟩:=qE fU;have mM:=g5 eC.lab;have oW:=g5 eC.al;have oV:=g5 eC.ye;have jO:=g5 eC.no;obtain⟨C,hC⟩:∃C,C=S.cells:=⟨_,rfl⟩;have dI:S.v=.agg C:=by rw[hC];rfl
 have gn:=ab dI;have iF:Hid (C.size=24):=ab (by rw[hC];rfl)
 have jN:Hid (C[2]? =some (.int .i64 S.tg.k)∧C[3]? =some (.string S.tg.t)∧C[4]? =some (.int .i64 S.tg.n)∧C[5]? =some (.string S.tg.nm)∧C[6]? =some (.slice S.tg.xa S.tg.len S.tg.cap)):=ab (by rw[hC];exact⟨rfl,rfl,rfl,rfl,rfl⟩)
 have gN:Hid (C[7]? =some (.int .i64 S.va.k)∧C[8]? =some (.string S.va.t)∧C[9]? =some (.int .i64 S.va.n)∧C[10]? =some (.string S.va.nm)∧C[11]? =some (.slice S.va.xa S.va.len S.va.cap)):=ab (by rw[hC];exact⟨rfl,rfl,rfl,rfl,rfl⟩)
 have qf:Hid (C[17]? =some (.string S.nm)∧C[18]? =some (.string S.en)∧C[19]? =some S.ps.v∧C[20]? =some S.ls.v):=ab (by rw[hC];exact⟨rfl,rfl,rfl,rfl⟩)
 have eT:C[0]? =some (.string S.lab):=by rw[hC];rfl
 have dF:C[1]? =some (.int .i64 S.k):=by rw[hC];rfl
 have dp:=ab dF;rw[dI];obtain⟨w1,aI⟩:∃w1,w1=w.alloc (.cells C 30):=⟨_,rfl⟩;have bp:Below w.heap.size w w1:=by rw[aI];exact ba _
 have am:w1.heap[w.heap.size]? =some (.cells C 30 (0,0)):=by rw[aI];exact ax rfl
 have H1:=ab ((Wn.start hb hW).below bp);have bA:=ab am;have bL:Hid (w1.heap.size=w.heap.size+1):=ab (by rw[aI];simp)
 have bG:Hid (w.alloc (.cells C 30)=w1):=ab (aI.symm);have HZ:=ab (And.intro hE hz);have iV:=ab eJ;have iv:Hid (ar (if S.lab.size=0 then [] else [wd S.lab])=S.lab.data.toList):=ab (by
  by_cases q:S.lab.size=0
  ·rw[af q];exact(kG (by rw[eQ];exact q)).symm
  ·rw[ac q];exact lf _)
 have c0:=bB am eT;have c1:=bB am dF;rw[aI] at c0 c1;clear hE hb hW bp am aI hC dI eJ fU eC eT dF;rw[hk] at c1 dp;have hq:ek [dH [S.nm],S.pa.wrong]=0:=by
  unfold SV.kndE at co;rw[hk] at co;exact co
 have dm:=(mq (mW (cH hq).1 S.nm (by simp))).2.1
 clear hq;have e3:tDfB.size=4:=rfl;have HI:Hid (ar (bT S)=S.lab.data.toList++(([32]++(S.nm.data.toList++([32,58,61,32]++pt.data.toList)))++ar (dx S))):=ab (by
  unfold bT iA;rw[fW,fW,aa iv,hk];show _++(ar (bl::wd S.nm::bl::df::bl::[td S])++_)=_;rw[dq,dq,dq,dq,dq,dq,hp];show _++(([32]++(S.nm.data.toList++([32]++([58,61]++([32]++((91::(S.pa.txt++[93]))++[]))))))++_)=_;simp)
 clear co hk iv;have cg:Hid (Calls prog 42 #[.pointer (some ⟨z,0,none⟩),.slice (some ⟨w1.heap.size,0,none⟩) 1 1] (w1.alloc (.cells #[.string S.lab] 9)) _):=ab ((aa H1).put (aa HZ).1 (aa HZ).2 (by omega) [S.lab] (by simp) (fun t ht=>by simp only[dO,eg,fN] at ht;subst ht;omega) 16 (by show (bH [S.lab]).length≤16;unfold bH;simp only[gU,iE,be,List.length_nil,eQ];omega))
 rw[aa bL] at cg;go_enter func20,ntmps20;go_wp2_with fail;rw[aa bG];refine(aa cg).mono ?_;rintro e w2 ⟨rfl,v2,o2,f2,h2,cJ⟩;have cV:=ab (cJ.keep (aa H1).wr (aa bA) (by decide) bX)
 have H2:=ab h2;clear h2 cJ cg H1;clear c0 c1;have c1:=bB (aa cV) (aa dp);have e32:(ah 32).size=1:=rfl;have dz:Hid (Calls prog 42 #[.pointer (some ⟨z,0,none⟩),.slice (some ⟨w2.heap.size,0,none⟩) 1 1] (w2.alloc (.cells #[.string ⟨#[32]⟩] 9)) _):=ab ((aa H2).put (aa HZ).1 (aa HZ).2 (by omega) [ah 32] (by simp) (fun t ht=>by simp only[dO,eg,fN] at ht;subst ht;omega) 1 (by show (bH [ah 32]).length≤1;unfold bH;simp only[gU,iE,be,List.length_nil,eQ];omega))
 go_wp2_with fail;refine(aa dz).mono ?_;rintro e w3 ⟨rfl,v3,o3,f3,h3,dl⟩;have dc:=ab (dl.keep (aa H2).wr (aa cV) (by decide) bX)
 have H3:=ab h3;clear h3 dl dz H2;clear c1;have c1:=bB (aa dc) (aa dp);have gq:Hid (Calls prog 42 #[.pointer (some ⟨z,0,none⟩),.slice (some ⟨w3.heap.size,0,none⟩) 3 3] (w3.alloc (.cells #[.string S.nm,.string ⟨#[32,58,61,32]⟩,.string pt] 9)) _):=ab ((aa H3).put (aa HZ).1 (aa HZ).2 (by omega) [S.nm,tDfB,pt] (by simp) (fun t ht=>by simp only[dO,eg,fN] at ht;rcases ht with rfl | rfl | rfl <;> omega) 65558 (by show (bH [S.nm,tDfB,pt]).length≤65558;unfold bH;simp only[gU,iE,be,List.length_nil,eQ];omega))
 have c17:=bB (aa dc) (aa qf).1;go_wp2_with fail;refine(aa gq).mono ?_;rintro e w4 ⟨rfl,v4,o4,f4,h4,cv⟩;have lN:=ab (cv.keep (aa H3).wr (aa dc) (by decide) bX)
 have H4:=ab h4;clear h4 cv gq H3;clear c17;clear c1;have gr:=ab (vR S (aa HZ).1 (aa H4).bel (aa HZ).2 (aa H4).wr oW oV jO ((aa H4).len2 (by omega)))
 rw[aa gn] at gr;go_wp2_with (first
  | (refine io rfl 30 _ rfl w.heap.size rfl 30 C (0,0) _ (aa lN) underlying30 rfl (pN.trans (by rw[aa iF])) ?_)
  | fail)
 refine(aa gr).mono ?_;rintro e w5 ⟨rfl,bg⟩;obtain⟨v5,o5,f5,h5, -⟩:=(aa H4).sub (aa HZ).2 bg;have HF:=ab (h5.done (t:=ar (bT S)) (c:=500000) (by rw[aa HI];rw[fw,fw,kx,kx,fw];show []++S.lab.data.toList++[32]++(S.nm.data.toList++([32,58,61,32]++pt.data.toList))++ar (dx S)=_;simp) (by omega))
 clear bg h5 gr H4;go_wp2_with fail;go_end0;exact⟨rfl,aa HF⟩
open Go.RowKit
def Cg:ByteArray:=⟨#[68,69,70,73,78,69,32]⟩
theorem zA (l:List ByteArray):(tf l).data.toList=ar (fj l):=by unfold tf;simp
theorem stm_7 (S:SV) (pt:ByteArray) {W w:World} {B z:Nat} {v:Value} {o:List UInt8} {f:Bool} (hk:S.k=7) (hE:EnvW W) (hb:Below W.heap.size W w) (hz:W.heap.size≤z) (hW:WrI B z w v o f) (eJ:S.In W) (fU:S.wrong=0) (ho:max o.length 140000+500000≤9000000):
  Calls prog 20 #[.pointer (some ⟨z,0,none⟩),S.v,.string pt] w fun e w'=>ik B z w v o (ar (bT S)) f 500000 e w':=by
 have hzl:z < w.heap.size:=(bC.1 hW.blk).1;have bX:w.heap.size≠z:=by omega
 obtain⟨eC,co⟩:=qE fU;have mM:=g5 eC.lab;have oW:=g5 eC.al;have oV:=g5 eC.ye;have jO:=g5 eC.no;obtain⟨C,hC⟩:∃C,C=S.cells:=⟨_,rfl⟩;have dI:S.v=.agg C:=by rw[hC];rfl
 have gn:=ab dI;have iF:Hid (C.size=24):=ab (by rw[hC];rfl)
 have jN:Hid (C[2]? =some (.int .i64 S.tg.k)∧C[3]? =some (.string S.tg.t)∧C[4]? =some (.int .i64 S.tg.n)∧C[5]? =some (.string S.tg.nm)∧C[6]? =some (.slice S.tg.xa S.tg.len S.tg.cap)):=ab (by rw[hC];exact⟨rfl,rfl,rfl,rfl,rfl⟩)
 have gN:Hid (C[7]? =some (.int .i64 S.va.k)∧C[8]? =some (.string S.va.t)∧C[9]? =some (.int .i64 S.va.n)∧C[10]? =some (.string S.va.nm)∧C[11]? =some (.slice S.va.xa S.va.len S.va.cap)):=ab (by rw[hC];exact⟨rfl,rfl,rfl,rfl,rfl⟩)
 have qf:Hid (C[17]? =some (.string S.nm)∧C[18]? =some (.string S.en)∧C[19]? =some S.ps.v∧C[20]? =some S.ls.v):=ab (by rw[hC];exact⟨rfl,rfl,rfl,rfl⟩)
 have eT:C[0]? =some (.string S.lab):=by rw[hC];rfl
 have dF:C[1]? =some (.int .i64 S.k):=by rw[hC];rfl
 have dp:=ab dF;rw[dI];obtain⟨w1,aI⟩:∃w1,w1=w.alloc (.cells C 30):=⟨_,rfl⟩;have bp:Below w.heap.size w w1:=by rw[aI];exact ba _
 have am:w1.heap[w.heap.size]? =some (.cells C 30 (0,0)):=by rw[aI];exact ax rfl
 have H1:=ab ((Wn.start hb hW).below bp);have bA:=ab am;have bL:Hid (w1.heap.size=w.heap.size+1):=ab (by rw[aI];simp)
 have bG:Hid (w.alloc (.cells C 30)=w1):=ab (aI.symm);have HZ:=ab (And.intro hE hz);have iV:=ab eJ;have iv:Hid (ar (if S.lab.size=0 then [] else [wd S.lab])=S.lab.data.toList):=ab (by
  by_cases q:S.lab.size=0
  ·rw[af q];exact(kG (by rw[eQ];exact q)).symm
  ·rw[ac q];exact lf _)
 have c0:=bB am eT;have c1:=bB am dF;rw[aI] at c0 c1;clear hE hb hW bp am aI hC dI eJ fU eC eT dF;rw[hk] at c1 dp;have hq:ek [dH [S.nm,S.en],dH S.ps.l,dH S.ls.l]=0∧¬(8 < S.ps.l.length∨8 < S.ls.l.length):=by
  unfold SV.kndE at co;rw[hk] at co;have co:S.dfE=0:=co;unfold SV.dfE at co
  by_cases q:ek [dH [S.nm,S.en],dH S.ps.l,dH S.ls.l]=0∧(8 < S.ps.l.length∨8 < S.ls.l.length)
  ·rw[af q] at co;omega
  ·rw[ac q] at co;exact⟨co,fun z=>q ⟨co,z⟩⟩
 have l9:=(cH hq.1).1;have dm:=(mq (mW l9 S.nm (by simp))).2.1
 have hen:=(mq (mW l9 S.en (by simp))).2.1
 have j7:=mW (cH (cH hq.1).2).1;have hn3:=mW (cH (cH (cH hq.1).2).2).1;have lQ:∀x ∈ S.ps.l,x.size≤16:=fun x hx=>(mq (j7 x hx)).2.1
 have sq:∀x ∈ S.ls.l,x.size≤16:=fun x hx=>(mq (hn3 x hx)).2.1
 have h8:=hq.2;have hjp:(tf S.ps.l).size≤136:=by have:=zN S.ps.l lQ;rw[←eQ,zA];omega
 have ss:(tf S.ls.l).size≤136:=by have:=zN S.ls.l sq;rw[←eQ,zA];omega
 have HJP:=ab (fun (W1:World) (h:Below W.heap.size W W1)=>show Calls prog 44 #[.slice S.ps.xa S.ps.l.length S.ps.cap,.string ⟨#[44]⟩] W1 fun e w'=>e=.returned (.string (tf S.ps.l))∧Below W1.heap.size W1 w' from Ee S.ps W1 ((aa iV).ps.later h) lQ (by omega))
 have HJL:=ab (fun (W1:World) (h:Below W.heap.size W W1)=>show Calls prog 44 #[.slice S.ls.xa S.ls.l.length S.ls.cap,.string ⟨#[44]⟩] W1 fun e w'=>e=.returned (.string (tf S.ls.l))∧Below W1.heap.size W1 w' from Ee S.ls W1 ((aa iV).ls.later h) sq (by omega))
 have e7:Cg.size=7:=rfl;have e40:(ah 40).size=1:=rfl;have e41:(ah 41).size=1:=rfl;have e32:(ah 32).size=1:=rfl;clear hq l9 j7 hn3 lQ sq;unfold NL.v at qf;have HI:Hid (ar (bT S)=S.lab.data.toList++(([32]++([68,69,70,73,78,69,32]++(S.nm.data.toList++([40]++(ar (fj S.ps.l)++([41]++(ar (fj S.ls.l)++([32]++S.en.data.toList))))))))++ar (dx S))):=ab (by
  unfold bT iA;rw[fW,fW,aa iv,hk];show _++(ar (bl::wd mZ::bl::wd S.nm::sg 40::(fj S.ps.l++(sg 41::(fj S.ls.l++(bl::[wd S.en])))))++_)=_;rw[dq,dq,dq,dq,dq,fW,dq,fW,dq,dq];show _++(([32]++([68,69,70,73,78,69]++([32]++(S.nm.data.toList++([40]++(ar (fj S.ps.l)++([41]++(ar (fj S.ls.l)++([32]++(S.en.data.toList++[]))))))))))++_)=_;simp)
 have HJ1:=ab (zA S.ps.l);have HJ2:=ab (zA S.ls.l);generalize tf S.ps.l=jp at *;generalize tf S.ls.l=jl at *;clear co hk iv;have cg:Hid (Calls prog 42 #[.pointer (some ⟨z,0,none⟩),.slice (some ⟨w1.heap.size,0,none⟩) 1 1] (w1.alloc (.cells #[.string S.lab] 9)) _):=ab ((aa H1).put (aa HZ).1 (aa HZ).2 (by omega) [S.lab] (by simp) (fun t ht=>by simp only[dO,eg,fN] at ht;subst ht;omega) 16 (by show (bH [S.lab]).length≤16;unfold bH;simp only[gU,iE,be,List.length_nil,eQ];omega))
 rw[aa bL] at cg;go_enter func20,ntmps20;go_wp2_with fail;rw[aa bG];refine(aa cg).mono ?_;rintro e w2 ⟨rfl,v2,o2,f2,h2,cJ⟩;have cV:=ab (cJ.keep (aa H1).wr (aa bA) (by decide) bX)
 have H2:=ab h2;clear h2 cJ cg H1;clear c0 c1;have c1:=bB (aa cV) (aa dp);have dz:Hid (Calls prog 42 #[.pointer (some ⟨z,0,none⟩),.slice (some ⟨w2.heap.size,0,none⟩) 1 1] (w2.alloc (.cells #[.string ⟨#[32]⟩] 9)) _):=ab ((aa H2).put (aa HZ).1 (aa HZ).2 (by omega) [ah 32] (by simp) (fun t ht=>by simp only[dO,eg,fN] at ht;subst ht;omega) 1 (by show (bH [ah 32]).length≤1;unfold bH;simp only[gU,iE,be,List.length_nil,eQ];omega))
 go_wp2_with fail;refine(aa dz).mono ?_;rintro e w3 ⟨rfl,v3,o3,f3,h3,dl⟩;have dc:=ab (dl.keep (aa H2).wr (aa cV) (by decide) bX)
 have H3:=ab h3;clear h3 dl dz H2;clear c1;have c1:=bB (aa dc) (aa dp);go_wp2_with fail;clear c1;obtain⟨S0,aN⟩:∃S0:World→Prop,S0=fun W1=>W1.cell? ⟨w.heap.size,17,none⟩=some (.string S.nm)∧W1.cell? ⟨w.heap.size,18,none⟩=some (.string S.en)∧W1.cell? ⟨w.heap.size,19,none⟩=some (.slice S.ps.xa S.ps.l.length S.ps.cap)∧W1.cell? ⟨w.heap.size,20,none⟩=some (.slice S.ls.xa S.ls.l.length S.ls.cap):=⟨_,rfl⟩
 have ap:=ab aN;have aW:Hid (∀W1:World,W1.heap[w.heap.size]? =some (.cells C 30 (0,0))→S0 W1):=ab (fun W1 h=>by rw[aN];exact⟨bB h (aa qf).1,bB h (aa qf).2.1,bB h (aa qf).2.2.1,bB h (aa qf).2.2.2⟩)
 have vr:=(aa H3).below (aV _ _).drew;have jw:=ab (an (aa dc) (aV _ _).drew);have bm:S0 w3.drew:=aa aW _ (aa jw);have t8:=ab vr;clear aN vr;refine gt 12 S0 ?_;intro F;refine aK F 0 ap bm ?_
 (try simp only[aH,aG])
 (try go_frame)
 refine aK F 1 ap bm ?_
 (try simp only[aH,aJ,aG])
 (try go_frame)
 refine aK F 2 ap bm ?_
 (try simp only[aH,aJ,aG])
 (try go_frame)
 refine aK F 3 ap bm ?_
 (try simp only[aH,aJ,aG])
 (try go_frame)
 refine aK F 4 ap bm ?_
 (try simp only[aH,aJ,aG])
 (try go_frame)
 refine aK F 6 ap bm ?_
 (try simp only[aH,aJ,aG])
 (try go_frame)
 refine aK F 7 ap bm ?_
 (try simp only[aH,aJ,aG])
 (try go_frame)
 refine aK F 9 ap bm ?_
 (try simp only[aH,aJ,aG])
 (try go_frame)
 refine aK F 10 ap bm ?_
 (try simp only[aH,aJ,aG])
 (try go_frame)
 refine ce 5 (fun K2 eD=> ?_)
 go_simp;refine(aa HJP _ (aa t8).bel).mono ?_;rintro e w5 ⟨rfl,hb5⟩;refine eD _ _ (aa aW _ (an (aa jw) hb5)) ?_
 (try simp only[aH,aJ,aG])
 (try go_frame)
 refine ce 8 (fun K3 cC=> ?_)
 go_simp;refine(aa HJL _ ((aa t8).below hb5).bel).mono ?_;rintro e w6 ⟨rfl,hb6⟩;have fq:=ab (aq hb5 hb6);have H6:=ab ((aa t8).below (aa fq));refine cC _ _ (aa aW _ (an (aa jw) (aa fq))) ?_
 (try simp only[aH,aJ,aG])
 (try go_frame)
 clear cC K3 hb5 hb6 t8
 -- both are joined:the row of texts,then put
 have bm:S0 w6:=aa aW _ (an (aa jw) (aa fq));refine ce 11 (fun K3 cC=> ?_)
 go_simp;refine cC _ _ (aa aW _ (an (an (aa jw) (aa fq)) (ba _))) ?_
 (try simp only[aH,aJ,aG])
 (try go_frame)
 have HP6:Hid (Calls prog 42 #[.pointer (some ⟨z,0,none⟩),.slice (some ⟨w6.heap.size,0,none⟩) 8 8] (w6.alloc (.cells #[.string ⟨#[68,69,70,73,78,69,32]⟩,.string S.nm,.string ⟨#[40]⟩,.string jp,.string ⟨#[41]⟩,.string jl,.string ⟨#[32]⟩,.string S.en] 9)) _):=ab ((aa H6).put (aa HZ).1 (aa HZ).2 (by omega) [Cg,S.nm,ah 40,jp,ah 41,jl,ah 32,S.en] (by simp) (fun t ht=>by simp only[dO,eg,fN] at ht;rcases ht with rfl | rfl | rfl | rfl | rfl | rfl | rfl | rfl <;> omega) 400 (by show (bH [Cg,S.nm,ah 40,jp,ah 41,jl,ah 32,S.en]).length≤400;unfold bH;simp only[gU,iE,be,List.length_nil,eQ];omega))
 refine gy (by kernel_rfl) rfl (by kernel_rfl) (fun K4 bw=> ?_)
 go_simp;refine(aa HP6).mono ?_;rintro e w4 ⟨rfl,v4,o4,f4,h4,cv⟩;have lN:=ab (cv.keep (aa H6).wr (an (aa jw) (aa fq)) (by decide) bX)
 have H4:=ab h4;refine bw _ _ ?_
 (try simp only[aH,aJ,aG])
 (try go_frame)
 clear bw K4 cC K3 eD K2 F bm ap aW h4 cv HP6 H6 fq jw;have gr:=ab (vR S (aa HZ).1 (aa H4).bel (aa HZ).2 (aa H4).wr oW oV jO ((aa H4).len2 (by omega)))
 rw[aa gn] at gr;go_wp2_with (first
  | (refine io rfl 30 _ rfl w.heap.size rfl 30 C (0,0) _ (aa lN) underlying30 rfl (pN.trans (by rw[aa iF])) ?_)
  | fail)
 refine(aa gr).mono ?_;rintro e w5 ⟨rfl,bg⟩;obtain⟨v5,o5,f5,h5, -⟩:=(aa H4).sub (aa HZ).2 bg;have HF:=ab (h5.done (t:=ar (bT S)) (c:=500000) (by rw[aa HI];rw[fw,fw,kx,kx,kx,kx,kx,kx,kx,fw];show []++S.lab.data.toList++[32]++([68,69,70,73,78,69,32]++(S.nm.data.toList++([40]++(jp.data.toList++([41]++(jl.data.toList++([32]++S.en.data.toList)))))))++ar (dx S)=_;rw[aa HJ1,aa HJ2];simp) (by omega))
 clear bg h5 gr H4;go_wp2_with fail;go_end0;exact⟨rfl,aa HF⟩
theorem zx (S:SV) (pt:ByteArray) {W w:World} {B z:Nat} {v:Value} {o:List UInt8} {f:Bool} (hE:EnvW W) (hb:Below W.heap.size W w) (hz:W.heap.size≤z) (hW:WrI B z w v o f) (eJ:S.In W) (fU:S.wrong=0) (hp:S.k=4∨S.k=5∨S.k=6→pt.data.toList=91::(S.pa.txt++[93])∧pt.size≤65538) (ho:max o.length 140000+500000≤9000000):
  Calls prog 20 #[.pointer (some ⟨z,0,none⟩),S.v,.string pt] w fun e w'=>ik B z w v o (ar (bT S)) f 500000 e w':=by
 obtain⟨-,hk⟩:=qE fU;have hc:S.k=1∨S.k=2∨S.k=3∨S.k=4∨S.k=5∨S.k=6∨S.k=7:=by
  unfold SV.kndE at hk
  by_cases h1:S.k=1
  ·exact .inl h1
  ·by_cases h2:S.k=2
   ·exact .inr (.inl h2)
   ·by_cases h3:S.k=3
    ·exact .inr (.inr (.inl h3))
    ·by_cases h4:S.k=4
     ·exact .inr (.inr (.inr (.inl h4)))
     ·by_cases h5:S.k=5
      ·exact .inr (.inr (.inr (.inr (.inl h5))))
      ·by_cases h6:S.k=6
       ·exact .inr (.inr (.inr (.inr (.inr (.inl h6)))))
       ·by_cases h7:S.k=7
        ·exact .inr (.inr (.inr (.inr (.inr (.inr h7)))))
        ·rw[ac h1,ac h2,ac h4,ac h3,ac h5,ac h6,ac h7] at hk
         omega
 rcases hc with h | h | h | h | h | h | h
 ·exact stm_1 S pt h hE hb hz hW eJ fU ho
 ·exact stm_2 S pt h hE hb hz hW eJ fU ho
 ·exact stm_3 S pt h hE hb hz hW eJ fU ho
 ·exact stm_4 S pt h hE hb hz hW eJ fU (hp (.inl h)).1 (hp (.inl h)).2 ho
 ·exact stm_5 S pt h hE hb hz hW eJ fU (hp (.inr (.inl h))).1 (hp (.inr (.inl h))).2 ho
 ·exact stm_6 S pt h hE hb hz hW eJ fU (hp (.inr (.inr h))).1 (hp (.inr (.inr h))).2 ho
 ·exact stm_7 S pt h hE hb hz hW eJ fU ho
open Go
theorem Fc:∀{l:List Bool} {j:Nat},l[j]? =some false→(l.set j true).count false+1=l.count false
 | [],j,h=>by simp at h
 | b::l,0,h=>by
  have:b=false:=by simpa using h
  subst this;simp
 | b::l,j+1,h=>by
  have ih:=Fc (l:=l) (j:=j) (by simpa using h)
  rw[List.set_cons_succ,List.count_cons,List.count_cons];omega
theorem zi {l:Array Bool} {j:Nat} (h:l.getD j true=false):l.toList[j]? =some false:=by
 rw[sa];rw[Array.getD_eq_getD_getElem?] at h
 cases hj:l[j]? with
 | none=>rw[hj] at h;cases h
 | some b=>rw[hj] at h;simpa using h
section
variable {P:Program} {md:Region.Mode} {ops:Array Oper} {Q:Exit→Act→World→Prop} {I:Array Bool→Act→World→Prop}
theorem Dd (step:∀listed a w i,I listed a w→i ∈ Region.ready md ops listed→wpOp P ops Q i (fun a' w'=>I (listed.setIfInBounds i true) a' w') a w) (done:∀listed a w,I listed a w→Region.ready md ops listed=[]→Q .normal a w):
  ∀n listed a w,listed.toList.count false≤n→I listed a w→wpAny P md ops Q n listed a w
 | 0,listed,a,w,hn,hI=>by
  have h0:Region.ready md ops listed=[]:=by
   rcases List.eq_nil_or_concat (Region.ready md ops listed) with h | ⟨l,x,h⟩
   ·exact h
   ·have hx:x ∈ Region.ready md ops listed:=by rw[h];simp
    have hm:=oS (zi (ol.1 hx).1);have hp:=List.count_pos_iff.2 hm;omega
  exact⟨h0,done _ _ _ hI h0⟩
 | n+1,listed,a,w,hn,hI=>⟨fun h=>done _ _ _ hI h,fun i hi=>wpOp_mono (fun a' w' h'=>Dd step done n _ a' w' (by
   have:=Fc (zi (ol.1 hi).1);rw[Array.toList_setIfInBounds];omega) h') (step listed a w i hI hi)⟩
theorem Iz {id:Nat} {a:Act} {w:World} (hm:P.follows .mixedOrders=true) (start:I (Array.replicate ops.size false) a w.drew)
  (step:∀listed a w i,I listed a w→i ∈ Region.ready .any ops listed→wpOp P ops Q i (fun a' w'=>I (listed.setIfInBounds i true) a' w') a w) (done:∀listed a w,I listed a w→Region.ready .any ops listed=[]→Q .normal a w):(Code.region id ops true).wp P Q a w:=
 wp_region_any hm (Dd step done _ _ _ _ (by simp) start)
theorem L0 {i:Nat} {o:Oper} {a:Act} {w:World} {K:Act→World→Prop} (hi:ops[i]? =some o) (hg:o.guard=none) (h:o.wp P a w K Q):wpOp P ops Q i K a w:=by
 unfold wpOp;rw[hi];have hw:Region.wanted o (yielded ops a.tmps)=true:=by simp[Region.wanted,hg]
 show if Region.wanted o (yielded ops a.tmps)=true then _ else _;rw[af hw];exact .inl h
theorem ux {o:Oper} {a:Act} {w:World} {K:Act→World→Prop} {x:Operand} (ho:o.op=.move x) (h:K (a.put o.dst (a.eval x)) w):o.wp P a w K Q:=by
 unfold Oper.wp execOp;simp only[ho,Sem.run_pure];exact h
theorem uy {o:Oper} {a:Act} {w:World} {K:Act→World→Prop} {x:Operand} (ho:o.op=.assign x) (h:K (a.put o.dst (a.eval x)) w):o.wp P a w K Q:=by
 unfold Oper.wp execOp;simp only[ho,Sem.run_pure];exact h
theorem xr {o:Oper} {a:Act} {w:World} {K:Act→World→Prop} {f:FuncId} {fn:Func} {args:Array Operand} {ts:Array TypeId} (ho:o.op=.call {callee:=.value (.func f),args:=args,argTypes:=ts}) (hf:P.funcs[f]? =some fn) (hname:(fn.name== "runtime.NumGoroutine")=false) (hb:fn.body.isNone=false)
  (vs:Array Value) (hv:args.map a.eval=vs) (h:Calls P f vs w fun e w'=>∃v,e=.returned v∧K (a.put o.dst v) w'):o.wp P a w K Q:=by
 obtain⟨dst,op,ty,pos,after,guard⟩:=o;subst ho;have hr:(callFunc f (#[]++args.map a.eval++ #[])).run P w=.ok (.enter f vs) w:=by
  have h1:¬fn.name= "runtime.NumGoroutine" :=by simpa using hname
  have h2:¬fn.body=none:=fun q=>by rw[q] at hb;cases hb
  simp[callFunc,hf,h1,h2,hv]
 show Oper.upon P _ a K Q ((callFunc f (#[]++args.map a.eval++ #[])).run P w);rw[hr,Oper.upon_enter];refine h.mono ?_;rintro e w' ⟨v,rfl,hk⟩;exact hk
end
def fl (a:Act):List Nat→(Nat→Value)→Act
 | [],_=>a
 | d::D,x=>fl (a.put (some d) (x d)) D x
def bS (x:Nat→Value) (d:Nat) (v:Value):Nat→Value:=fun e=>if e=d then v else x e
theorem cy (x:Nat→Value) (d:Nat) (v:Value):bS x d v d=v:=af rfl
theorem jV {x:Nat→Value} {d e:Nat} {v:Value} (h:e≠d):bS x d v e=x e:=ac h
theorem KP (a:Act) (d:Nat) (u v:Value):(a.put (some d) u).put (some d) v=a.put (some d) v:=by
 unfold Act.put;simp[Array.setIfInBounds_setIfInBounds]
theorem KQ {a:Act} {d e:Nat} (h:d≠e) (u v:Value):(a.put (some d) u).put (some e) v=(a.put (some e) v).put (some d) u:=by
 unfold Act.put;simp[Array.setIfInBounds_comm _ _ h]
theorem KO (a:Act) (d:Nat):a.put (some d) (a.eval (.tmp d))=a:=by
 unfold Act.put Act.eval;rcases cG d a.tmps.size with h | h
 ·obtain⟨t,df⟩:=a
  have h':d < t.size:=h;simp[h',Array.setIfInBounds]
 ·simp[Array.setIfInBounds_eq_of_size_le h]
theorem F5:∀(D:List Nat) (a:Act) (x:Nat→Value) (d:Nat) (v:Value),d ∉ D→(fl a D x).put (some d) v=fl (a.put (some d) v) D x
 | [],_,_,_,_,_=>rfl
 | e::D,a,x,d,v,h=>by
  rw[fl,fl,F5 D _ x d v (fun q=>h (kH _ q)),KQ (fun q=>h (by rw[q];exact sc ..))]
theorem Ek:∀(D:List Nat) (a:Act) {x y:Nat→Value},(∀d ∈ D,x d=y d)→fl a D x=fl a D y
 | [],_,_,_,_=>rfl
 | e::D,a,x,y,h=>by rw[fl,fl,h e (sc ..),Ek D _ fun d hd=>h d (kH _ hd)]
theorem lB:∀(D:List Nat) (a:Act) (x:Nat→Value) (d:Nat) (v:Value),d ∈ D→D.Nodup→(fl a D x).put (some d) v=fl a D (bS x d v)
 | e::D,a,x,d,v,hd,hn=>by
  obtain⟨h1,h2⟩:=List.nodup_cons.1 hn;rw[fl,fl]
  by_cases q:d=e
  ·subst q
   rw[F5 D _ x d v h1,KP,cy];exact Ek D _ fun e he=>(jV (fun q=>h1 (by rw[←q];exact he))).symm
  ·rw[lB D _ x d v ((dO.1 hd).resolve_left q) h2,jV (fun z=>q z.symm)]
theorem sW:∀(D:List Nat) (a:Act),fl a D (fun d=>a.eval (.tmp d))=a
 | [],_=>rfl
 | e::D,a=>by rw[fl,KO];exact sW D a
theorem GZ {a:Act} {d:Nat} (h:d < a.tmps.size) (v:Value):(a.put (some d) v).eval (.tmp d)=v:=by
 unfold Act.put Act.eval;simp[h]
theorem GT {a:Act} {d e:Nat} (h:e≠d) (v:Value):(a.put (some d) v).eval (.tmp e)=a.eval (.tmp e):=by
 unfold Act.put Act.eval;simp[Ne.symm h]
theorem KN (a:Act) (d:Nat) (v:Value):(a.put (some d) v).tmps.size=a.tmps.size:=by
 unfold Act.put;simp
theorem kV:∀(D:List Nat) (a:Act) (x:Nat→Value) {t:Nat},t ∉ D→(fl a D x).eval (.tmp t)=a.eval (.tmp t)
 | [],_,_,_,_=>rfl
 | e::D,a,x,t,h=>by
  rw[fl,kV D _ x (fun q=>h (kH _ q)),GT (fun q=>h (by rw[q];exact sc ..))]
theorem jI:∀(D:List Nat) (a:Act) (x:Nat→Value) {d:Nat},d ∈ D→D.Nodup→d < a.tmps.size→(fl a D x).eval (.tmp d)=x d
 | e::D,a,x,d,hd,hn,hs=>by
  obtain⟨h1,h2⟩:=List.nodup_cons.1 hn;rw[fl]
  by_cases q:d=e
  ·subst q
   rw[kV D _ x h1,GZ hs]
  ·exact jI D _ x ((dO.1 hd).resolve_left q) h2 (by rw[KN];exact hs)
def cj (ops:Array Oper) (i:Nat) (op:Op) (dst:Nat) (deps:List Nat):Prop:=∃o,ops[i]? =some o∧o.op=op∧o.dst=some dst∧o.guard=none∧(∀e ∈ o.after,e.on ∈ deps)∧∀d ∈ deps,∃e ∈ o.after,Region.binds .any e=true∧e.on=d
theorem bZ {ops:Array Oper} {i:Nat} {o:Oper} {op:Op} {dst:Nat} {deps:List Nat} (h:ops[i]? =some o:=by rfl) (h1:o.op=op:=by rfl) (h2:o.dst=some dst:=by rfl) (h3:o.guard=none:=by rfl) (hb:(o.after.toList.all (fun e=>deps.contains e.on) && deps.all fun d=>o.after.toList.any fun e=>Region.binds .any e && e.on==d)=true:=by rfl):cj ops i op dst deps:=by
 rw[uM,uN,uN] at hb;refine⟨o,h,h1,h2,h3,fun e he=> ?_,fun d hd=> ?_⟩
 ·simpa using hb.1 e (by simpa using he)
 ·obtain⟨e,he,hq⟩:=List.any_eq_true.1 (hb.2 d hd)
  rw[uM,se] at hq;exact⟨e,by simpa using he,hq.1,hq.2⟩
def Up (listed:Array Bool) (j:Nat):Prop:=listed.getD j false=true
theorem bR {listed:Array Bool} {i j:Nat} (hi:i < listed.size):Up (listed.setIfInBounds i true) j↔j=i∨Up listed j:=by
 unfold Up
 by_cases h:j=i
 ·subst h
  simp[hi]
 ·simp[h,Ne.symm h]
theorem cz {n j:Nat}:¬Up (Array.replicate n false) j:=by
 unfold Up;simp only[Array.getD_eq_getD_getElem?,Array.getElem?_replicate];split <;> simp
theorem cD {ops:Array Oper} {listed:Array Bool} {i:Nat} {op:Op} {dst:Nat} {deps:List Nat} (h:cj ops i op dst deps) (hi:i ∈ Region.ready .any ops listed):¬Up listed i∧∀d ∈ deps,Up listed d:=by
 obtain⟨h1,o',ho',h2⟩:=ol.1 hi;obtain⟨o,ho, -, -, -, -,h3⟩:=h;obtain rfl:o=o':=lK (ho.symm.trans ho');refine⟨fun q=> ?_,fun d hd=> ?_⟩
 ·have:=zi h1
  unfold Up at q;rw[sa] at this;rw[Array.getD_eq_getD_getElem?,this] at q
  cases q
 ·obtain⟨e,he,hb,rfl⟩:=h3 d hd
  exact h2 e he hb
theorem cE {ops:Array Oper} {listed:Array Bool} {i:Nat} {op:Op} {dst:Nat} {deps:List Nat} (h:cj ops i op dst deps) (hn:Region.ready .any ops listed=[]) (hs:i < listed.size) (hd:∀d ∈ deps,Up listed d):Up listed i:=by
 obtain⟨o,ho, -, -, -,h2, -⟩:=h
 cases hq:listed.getD i true with
 | true=>
  unfold Up;rw[Array.getD_eq_getD_getElem?,Array.getElem?_eq_getElem hs] at hq ⊢;exact hq
 | false=>
  have:i ∈ Region.ready .any ops listed:=ol.2 ⟨hq,o,ho,fun e he _=>hd _ (h2 e he)⟩
  rw[hn] at this
  cases this
theorem cF {P:Program} {ops:Array Oper} {Q:Exit→Act→World→Prop} {i:Nat} {op:Op} {dst:Nat} {deps:List Nat} {a:Act} {w:World} {K:Act→World→Prop} (h:cj ops i op dst deps) (hw:∀o:Oper,o.op=op→o.dst=some dst→o.wp P a w K Q):wpOp P ops Q i K a w:=by
 obtain⟨o,ho,h1,h2,h3, -, -⟩:=h;exact L0 ho h3 (hw o h1 h2)
def Shut (ops:Array Oper) (listed:Array Bool):Prop:=∀i o,ops[i]? =some o→Up listed i→∀e ∈ o.after,Region.binds .any e=true→Up listed e.on
theorem fv {ops:Array Oper} {listed:Array Bool} {i:Nat} {op:Op} {dst:Nat} {deps:List Nat} (h:cj ops i op dst deps) (hs:Shut ops listed) (hu:Up listed i):∀d ∈ deps,Up listed d:=fun d hd=>by
 obtain⟨o,ho, -, -, -, -,h3⟩:=h;obtain⟨e,he,hb,rfl⟩:=h3 d hd;exact hs i o ho hu e he hb
theorem ud {P:Program} {ops:Array Oper} {Q:Exit→Act→World→Prop} {id:Nat} {a:Act} {w:World} {I:Array Bool→Act→World→Prop} (hm:P.follows .mixedOrders=true) (start:I (Array.replicate ops.size false) a w.drew)
  (step:∀listed a w i,I listed a w→Shut ops listed→i ∈ Region.ready .any ops listed→wpOp P ops Q i (fun a' w'=>I (listed.setIfInBounds i true) a' w') a w) (done:∀listed a w,I listed a w→Region.ready .any ops listed=[]→Q .normal a w):(Code.region id ops true).wp P Q a w:=by
 refine Iz (I:=fun listed a w=>I listed a w∧Shut ops listed) hm ⟨start,fun i o _ hu=>absurd hu cz⟩ (fun listed a w i h hi=> ?_) fun listed a w h hr=>done listed a w h.1 hr
 refine wpOp_mono (fun a' w' h'=>⟨h', ?_⟩) (step listed a w i h.1 h.2 hi)
 obtain⟨h1,o',ho',h2⟩:=ol.1 hi;have hil:i < listed.size:=by
  have:=zi h1;have:=(mG.1 this).1
  simpa using this
 intro j o ho hu e he hb;rw[bR hil] at hu ⊢;rcases hu with rfl | hu
 ·obtain rfl:o=o':=lK (ho.symm.trans ho')
  exact .inr (h2 e he hb)
 ·exact .inr (h.2 j o ho hu e he hb)
end Go.Proofs.YtlmnjbipfacniaaGreatDoor
