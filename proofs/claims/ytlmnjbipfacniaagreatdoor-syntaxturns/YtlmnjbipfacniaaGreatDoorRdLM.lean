/- The reader of patterns: a piece and the names that are given -/
import Derived.Test.YtlmnjbipfacniaaGreatDoorRegionSinkM
set_option maxRecDepth 100000
set_option maxHeartbeats 4000000
namespace Go.Proofs.YtlmnjbipfacniaaGreatDoor
open Go.Proofs.Tryz
open Go.RowKit
section
variable {P:Program} {ops:Array Oper} {Q:Exit→Act→World→Prop} {S:World→Prop} {n:Nat}
theorem FU {i j:Nat} {oi oj:Oper} {f:Nat} {listed:Array Bool} {a:Act} {w:World} (hr:Region.ready .any ops listed=[i,j]) (hi:ops[i]? =some oi) (hj:ops[j]? =some oj) (mL:decide (i < n)=true) (hjn:decide (j < n)=true)
  (h1:∀K:Act→World→Prop,(∀a' w',S w'→(mF ops n (listed.setIfInBounds i true)→kh P ops Q S n f (listed.setIfInBounds i true) a' w')→K a' w')→
   if Region.wanted oi (yielded ops a.tmps)=true then Oper.wp P oi a w K Q else K (a.put oi.dst undef) w)
  (h2:∀K:Act→World→Prop,(∀a' w',S w'→(mF ops n (listed.setIfInBounds j true)→kh P ops Q S n f (listed.setIfInBounds j true) a' w')→K a' w')→
   if Region.wanted oj (yielded ops a.tmps)=true then Oper.wp P oj a w K Q else K (a.put oj.dst undef) w):mF ops n listed→kh P ops Q S n (f+1) listed a w:=fun inv=>
 ⟨fun h0=>absurd (hr▸h0) (by simp),fun k hk=>by
  have hk':k=i∨k=j:=by rw[hr] at hk;simpa using hk
  rcases hk' with rfl | rfl
  ·exact wpOp_step hi fun K hK=>h1 K fun a' w' hS hA=>hK a' w' ⟨fun _=>hS,hA (inv.set hk (mG mL))⟩
  ·exact wpOp_step hj fun K hK=>h2 K fun a' w' hS hA=>hK a' w' ⟨fun _=>hS,hA (inv.set hk (mG hjn))⟩⟩
end
theorem IY {k' B gk:Nat} {g:Option Nat} {nm:ByteArray} {w:World} {U:PT} (hk:k'≤100) (hn:nm.size≤65536) (hr:w.heap[gk]? =some (.cells (ai U) 27 (0,0))) (hB:B≤gk) (hg:some gk≠g) (hU:gm B g w U):gm B g w (gd (k':Int) nm gk 1 [U]):=by
 intro X hX;have au:gk < w.heap.size:=(bC.1 hr).1;have hr2:X.heap[gk]? =some (.cells (ai U) 27 (0,0)):=(hX gk hB au hg).trans hr;exact BO (ER hr2 (B:=B) hB) (fun x hx=>by rw[fE] at hx;subst hx;exact hU X hX) (k':Int) rfl hk hn
theorem A8 {P:Program} {o:Oper} {ops:Array Oper} {a:Act} {w:World} {K:Act→World→Prop} {Q:Exit→Act→World→Prop} {E:Prop} (hg:o.guard=none) (h:Oper.wp P o a w K Q):if Region.wanted o (yielded ops a.tmps)=true then Oper.wp P o a w K Q else E:=by
 rw[af (by simp[Region.wanted,hg])];exact h
theorem gm.setRow {B g:Nat} {w:World} {U:PT} (h:gm B (some g) w U) (cs:Array Value):gm B (some g) (w.setRow g cs) U:=h.step (by simp) fun i _ _ h3=>dH w g i cs (fun e=>h3 (by rw[e]))
theorem DK {s:ByteArray} {z a1 gp gk K f k0:Nat} {o:Int} {w W wr:World} {V q:PT} {t:ByteArray} {RR:Rd PT} (ha:a1≤s.size) (hf:s.size < a1+f) (hgp:gp < W.heap.size) (hR:bR W z s a1 o) (hB:But z w W)
  (hX:W.heap[w.heap.size]? =some (.cells aB 27 (0,0))) (hP:W.heap[gp]? =some (.cells (ai V) 27 (0,0))) (hk:W.heap[gk]? =some (.cells (ai V) 27 (0,0))) (hgk:gk≠gp) (hlk:w.heap.size+1≤gk) (hlp:w.heap.size+1≤gp) (mN:gp≠z)
  (hc:V.can=q) (hL:gm (w.heap.size+1) (some gp) W V) (hE:RR=iP s f (aI (K:Int) ⟨#[]⟩ 0 t [q]) a1) (hK:K≤22) (ht:t.size≤65536) (hm:kI wr z=k0) (au:k0 < a1):
  (∃(f k:Nat) (q' V':PT),k≤s.size∧s.size < k+f∧gp+1≤(W.setRow gp (ai (gd (K:Int) t gk 1 [V]))).heap.size∧Hid (bR (W.setRow gp (ai (gd (K:Int) t gk 1 [V]))) z s k o)∧Hid (But z w (W.setRow gp (ai (gd (K:Int) t gk 1 [V]))))∧Hid ((W.setRow gp (ai (gd (K:Int) t gk 1 [V]))).heap[w.heap.size]? =some (.cells aB 27 (0,0)))∧Hid ((W.setRow gp (ai (gd (K:Int) t gk 1 [V]))).heap[gp]? =some (.cells (ai V') 27 (0,0)))∧Hid (V'.can=q'∧gm (w.heap.size+1) (some gp) (W.setRow gp (ai (gd (K:Int) t gk 1 [V]))) V')∧Hid (RR=iP s f q' k))∧
  s.size+1 - kI (W.setRow gp (ai (gd (K:Int) t gk 1 [V]))) z < s.size+1 - kI wr z:=by
 have db:=hR.setRow mN (ai (gd (K:Int) t gk 1 [V]));refine⟨⟨f,a1,aI (K:Int) ⟨#[]⟩ 0 t [q],gd (K:Int) t gk 1 [V],ha,hf,by rw[show (W.setRow gp (ai (gd (K:Int) t gk 1 [V]))).heap.size=W.heap.size by simp];exact hgp,db,j7 hB (by omega) _,(dH W gp _ _ (by omega)).trans hX,cm _ _ _ _ _ _ hP,⟨?_, ?_⟩,hE⟩, ?_⟩
 ·rw[wP,ib,kK,hc]
 ·exact IY (by omega) ht ((dH W gp gk _ hgk).trans hk) hlk (fun e=>hgk (by injection e)) (hL.setRow _)
 ·rw[db.at,hm];omega
theorem gvK_le (b:Nat):iO b≤22:=by unfold iO;split <;> (try split) <;> omega
theorem LV (s:ByteArray) (f:Nat) (p:PT) (i:Nat):iP s (f+1) p i=if iO (nx s i)=0 then .ok (p,sk s i) else bO (gR s (sk s i+1)) fun t e=>iP s f (aI (iO (nx s i)) ⟨#[]⟩ 0 t [p]) e:=rfl
theorem DL {d:Nat} {B:ByteArray→Nat→Rd PT} (hB:∀s,eG s (B s)) (rl:oF 188 d (fun s=>jG d (B s) s)):oF 183 d (fun s=>gQ d (B s) s):=by
 intro s i z w hs hi hR hS hzG;have hzl:=hR.lt;have aZ:But z w (w.alloc (.cells aB 27)):=(But.refl z w).alloc _;have fb:=hR.below ((aW _ _).alloc (ax _) (.cells aB 27));have bo:w.heap.size≠z:=by omega
 have aD:=ab aZ;have ei:Hid ((w.alloc (.cells aB 27)).heap[w.heap.size]? =some (.cells aB 27 (0,0))):=ab (oE);have HC:Hid (Calls prog 188 #[.pointer (some ⟨z,0,none⟩)] (w.alloc (.cells aB 27)) fun e w'=>fZ (fv (w.alloc (.cells aB 27)).heap.size) z s ((200 - d:Nat):Int) (w.alloc (.cells aB 27)) (jG d (B s) s i) e w'):=ab (rl s i z _ hs hi fb (hS.but aZ hzG) hzG)
 show Calls _ _ _ _ fun e w'=>fZ (fv w.heap.size) z s ((200 - d:Nat):Int) w (gQ d (B s) s i) e w'
 have eA:Hid (gQ d (B s) s i=bO (jG d (B s) s i) fun p j=>iP s (s.size+1) p j):=ab (rfl)
 have pm:=ab (fun x j=>Ad (d:=d) (hB s) i x j hi)
 generalize gQ d (B s) s i=RR at *;generalize ((200 - d:Nat):Int)=o at *;generalize jG d (B s) s i=RB at *;clear aZ fb hR hS rl hB;rcases RB with ⟨er,a1⟩ | ⟨p0,j0⟩
 ·have gA:Hid (RR=.error (er,a1)):=ab (by rw[aa eA,jA])
  go_enter func183,ntmps183;go_wp2_with (refine(aa HC).mono ?_;intro e w3 hP;obtain⟨hb3,rfl⟩:=j9 hP rfl;clear hP;have aq:=ab ((aa aD).trans hb3);clear hb3;unfold aC);exact⟨rfl,fQ (aa gA) (aa aq) rfl⟩
 ·have d6:Hid (RR=iP s (s.size+1) p0 j0):=ab (by rw[aa eA,dE])
  have nf:=aa pm p0 j0 rfl;clear eA pm;go_enter func183,ntmps183;go_wp2_with fail;refine(aa HC).mono ?_;intro e w1 hP;obtain⟨hb1,⟨U,rfl,hU,hL⟩,hRd1⟩:=jB hP rfl;rw[eu] at hL;have gW:w.heap.size+1≤w1.heap.size:=by have:=hb1.size;rw[eu] at this;exact this
  have bf:=ab ((aa aD).trans hb1);have dy:=ab (dS hb1 (aa ei) bo);have H1:=ab hRd1;have HU:=ab (And.intro hU hL);clear hP hb1 hRd1 hU hL HC;have hb2:Below w1.heap.size w1 (w1.alloc (.cells (ai U) 27)):=ba _;have aF:=ab ((aa bf).trans (But.of_below hb2));have dY:=ab (am (aa dy) hb2);have H2:=ab ((aa H1).below hb2);have dW:Hid ((w1.alloc (.cells (ai U) 27)).heap[w1.heap.size]? =some (.cells (ai U) 27 (0,0))):=ab (aw rfl);have lQ:=ab ((aa HU).2.newrow (ax _) (.cells (ai U) 27));have mN:w1.heap.size≠z:=by omega
  clear hb2;have hsz2:(w1.alloc (.cells (ai U) 27)).heap.size=w1.heap.size+1:=eu _ _;unfold pv;go_wp2_with fail;rw[show (#[.int .i64 U.k,.string U.t,.int .i64 U.n,.string U.nm,.slice U.xa U.len U.cap]:Array Value)=ai U from rfl];generalize (w1.alloc (.cells (ai U) 27))=w2 at *;clear H1 bf dy;generalize w1.heap.size=gp at *;go_loopw [] (fun wr=>∃(f k:Nat) (q V:PT),k≤s.size∧s.size < k+f∧gp+1≤wr.heap.size∧Hid (bR wr z s k o)∧Hid (But z w wr)∧Hid (wr.heap[w.heap.size]? =some (.cells aB 27 (0,0)))∧Hid (wr.heap[gp]? =some (.cells (ai V) 27 (0,0)))∧Hid (V.can=q∧gm (w.heap.size+1) (some gp) wr V)∧Hid (RR=iP s f q k)) (fun wr=>s.size+1 - kI wr z)
  case atStart=>exact⟨s.size+1,j0,p0,U,nf.2,by omega,by omega,aa H2,aa aF,aa dY,aa dW,⟨(aa HU).1,aa lQ⟩,aa d6⟩
  case round=>
   obtain⟨f,k,q,V,hk,hf,pX,HR,HB,HX,HP,HV,HE⟩:=hrel;have oO:=eM s k hk;have HN:=ab (sL wr hs hk (aa HR));have HG:=ab (Jt (nx s k));have HM:=ab (aa HR).at;have qP:f≠0:=by omega
   obtain⟨f',rfl⟩:∃f',f=f'+1:=⟨f - 1,by omega⟩
   have dl:=ab ((aa HE).trans (LV s f' q k));have hK22:=gvK_le (nx s k);have dR:=ab (fun (h:iO (nx s k)≠0)=>kU (s:=s) (i:=k) (fun z=>h (by rw[z];rfl)))
   have fY:=ab (fun w h1 h2=>Ek (s:=s) (i:=sk s k+1) (z:=z) (o:=o) w hs h1 h2)
   have ml:=ab (fun t e h=>v8 s (sk s k+1) t e h)
   clear H2 aF dY dW HU lQ d6 HE;generalize nx s k=b at *;generalize iO b=K at *;generalize sk s k=m at *
   by_cases vq:K=0
   ·have eJ:Hid (RR=.ok (q,m)):=ab (by rw[aa dl,af vq])
    have e0:((K:Int)==0)=true:=bt;clear dl vq fY ml dR;go_wp2_with fail;refine(aa HN).mono ?_;rintro e w3 ⟨rfl,hb3,hR3⟩;have bj:=ab (dS hb3 (aa HX) bo);have ig:=ab (dS hb3 (aa HP) (by omega))
    have aq:=ab ((aa HB).trans hb3);have oU:=ab ((aa HV).2.but hb3 (by omega))
    have H3:=ab hR3;clear hb3 hR3;go_wp2_with fail;refine(aa HG _).mono ?_;rintro e w3 ⟨rfl,rfl⟩;obtain⟨x0,x1,x2,x3,x4⟩:=ej (aa ig);go_wp2_with (first
     | (refine aX rfl 27 _ _ rfl w.heap.size (ai V) rfl rfl 27 aB (aa bj) dK rfl (ik _) ?_)
     | fail)
    (try simp only[Exit.inBlock,Exit.then])
    refine ck (dT rfl _ _ w.heap.size 27 (ai V) (0,0) _ rfl (cm _ _ _ _ _ _ (aa bj)) underlying27 rfl dK) rfl ?_;exact lz (aa eJ) (j7 (aa aq) (ax _) _) ⟨V,rfl,(aa HV).1,((aa oU).lies.setRow (by omega) _).mono (by omega)⟩ ((aa H3).setRow bo _)
   ·have e0:((K:Int)==0)=false:=bn
    have eJ:Hid (RR=bO (gR s (m+1)) fun t e=>iP s f' (aI K ⟨#[]⟩ 0 t [q]) e):=ab (by rw[aa dl,ac vq])
    have hmlt:=aa dR vq;have qI:=ab (fun w h=>aa fY w (by omega) h)
    have HNA2:=ab (fun t e h=>aa ml t e (by omega) h)
    clear dl fY ml dR vq;go_wp2_with fail;refine(aa HN).mono ?_;rintro e w3 ⟨rfl,hb3,hR3⟩;have fN:=hb3.trans ((But.refl z w3).setCell 1 (.int .i64 ((m+1:Nat):Int)));have bj:=ab (dS fN (aa HX) bo);have ig:=ab (dS fN (aa HP) (by omega))
    have aq:=ab ((aa HB).trans fN);have oU:=ab ((aa HV).2.but fN (by omega))
    have H3:=ab (hR3.set1 (m+1));have c1:=hR3.c1;have fz:=hR3.fz 1;have vk:=hb3.size;clear hb3 hR3 fN;go_wp2_with fail;refine(aa HG _).mono ?_;rintro e w3 ⟨rfl,rfl⟩;go_wp2_with fail;have lr:Hid ((w3.setCell ⟨z,1,none⟩ (.int .i64 ((m:Int)+1))).heap.size=w3.heap.size):=ab (by simp)
    rw[show ((m+1:Nat):Int)=(m:Int)+1 from rfl] at H3 aq bj ig oU;generalize w3.setCell ⟨z,1,none⟩ (.int .i64 ((m:Int)+1))=w4 at *;have hs4:gp+1≤w4.heap.size:=by have:=aa lr;omega
    obtain⟨x0,x1,x2,x3,x4⟩:=ej (aa ig);clear c1 fz;obtain⟨RN,hRN⟩:∃RN,gR s (m+1)=RN:=⟨_,rfl⟩;rw[hRN] at qI HNA2 eJ;have HRN:=ab hRN;clear hRN;rcases RN with ⟨er,a1⟩ | ⟨t,a1⟩
    ·have jP:Hid (RR=.error (er,a1)):=ab (by rw[aa eJ,jA])
     have yZ:=ab (fun W (hb:Below w4.heap.size w4 W)=>(aa qI W ((aa H3).below hb)).mono (R':=fun e w'=>e=aC er a1∧But z w4 w') fun e w' hP=>⟨(j9 hP rfl).2,(But.of_below hb).trans (j9 hP rfl).1⟩)
     clear qI;obtain⟨S0,aO⟩:∃S0:World→Prop,S0=fun w'=>w'.cell? ⟨gp,0,none⟩=some (.int .i64 V.k)∧w'.cell? ⟨gp,1,none⟩=some (.string V.t)∧w'.cell? ⟨gp,2,none⟩=some (.int .i64 V.n)∧w'.cell? ⟨gp,3,none⟩=some (.string V.nm)∧w'.cell? ⟨gp,4,none⟩=some (.slice V.xa V.len V.cap):=⟨_,rfl⟩
     have ao:=ab aO;have hS:S0 w4.drew:=by rw[aO];exact⟨x0,x1,x2,x3,x4⟩
     have aU:Hid (∀W,W.heap[gp]? =some (.cells (ai V) 27 (0,0))→S0 W):=ab (fun W h=>by rw[aO];exact ej h)
     clear aO;refine gZ 6 S0 ?_;intro F;refine aK F 0 ao hS ?_
     (try go_frame)
     refine aK F 1 ao hS ?_
     (try go_frame)
     refine aK F 3 ao hS ?_
     (try go_frame)
     refine FU (i:=2) (j:=4) (by kernel_rfl) rfl rfl (by rfl) (by rfl) (fun K2 ew=> ?_) (fun K2 ew=> ?_)
     ·go_simp
      refine(aa yZ _ (aW _ _).drew).mono ?_;rintro e w5 ⟨rfl,hb5⟩;have ez:=ab ((aa aq).trans hb5);clear hb5;unfold aC;exact⟨rfl,fQ (aa jP) (aa ez) rfl⟩
     ·go_simp
      have ie:Below w4.heap.size w4 (w4.alloc (.cells (ai V) 27)).drew:=(ba _).drew;refine ew _ _ (aa aU _ (am (aa ig) ie)) ?_;refine cg 2 (fun K3 cO=> ?_)
      go_simp;refine(aa yZ _ ie).mono ?_;rintro e w5 ⟨rfl,hb5⟩;have ez:=ab ((aa aq).trans hb5);clear hb5;unfold aC;exact⟨rfl,fQ (aa jP) (aa ez) rfl⟩
    ·have yZ:=ab (fun W (hb:Below w4.heap.size w4 W)=>(aa qI W ((aa H3).below hb)).mono (R':=fun e w'=>e=.returned (.string t)∧But z W w'∧bR w' z s a1 o) fun e w' hP=>⟨(jB hP rfl).2.1,(jB hP rfl).1,(jB hP rfl).2.2⟩)
     have HEO:Hid (RR=iP s f' (aI K ⟨#[]⟩ 0 t [q]) a1):=ab (by rw[aa eJ,dE])
     have hadv5:=aa HNA2 t a1 rfl;have sq:=ab (Gj hs (aa HRN));clear qI;obtain⟨S0,aO⟩:∃S0:World→Prop,S0=fun w'=>w'.cell? ⟨gp,0,none⟩=some (.int .i64 V.k)∧w'.cell? ⟨gp,1,none⟩=some (.string V.t)∧w'.cell? ⟨gp,2,none⟩=some (.int .i64 V.n)∧w'.cell? ⟨gp,3,none⟩=some (.string V.nm)∧w'.cell? ⟨gp,4,none⟩=some (.slice V.xa V.len V.cap):=⟨_,rfl⟩
     have ao:=ab aO;have hS:S0 w4.drew:=by rw[aO];exact⟨x0,x1,x2,x3,x4⟩
     have aU:Hid (∀W,W.heap[gp]? =some (.cells (ai V) 27 (0,0))→S0 W):=ab (fun W h=>by rw[aO];exact ej h)
     clear aO;refine gZ 6 S0 ?_;intro F;refine aK F 0 ao hS ?_
     (try go_frame)
     refine aK F 1 ao hS ?_
     (try go_frame)
     refine aK F 3 ao hS ?_
     (try go_frame)
     refine FU (i:=2) (j:=4) (by kernel_rfl) rfl rfl (by rfl) (by rfl) (fun K2 ew=> ?_) (fun K2 ew=> ?_)
     ·go_simp
      refine(aa yZ _ (aW _ _).drew).mono ?_;rintro e w5 ⟨rfl,hb5,hR5⟩;have cz:But z w4 w5:=(But.of_below (aW _ _).drew).trans hb5;have kR:=ab (dS cz (aa ig) mN);refine ew _ _ (aa aU _ (aa kR)) ?_;clear hS;have hS:S0 w5:=aa aU _ (aa kR);refine cg 4 (fun K3 cO=> ?_)
      go_simp;have ie:Below w5.heap.size w5 (w5.alloc (.cells (ai V) 27)):=ba _;refine cO _ _ (aa aU _ (am (aa kR) ie)) ?_;clear hS;have hS:S0 (w5.alloc (.cells (ai V) 27)):=aa aU _ (am (aa kR) ie);refine cg 5 (fun K5 dP=> ?_)
      go_simp;refine dP _ _ hS ?_;refine g5 (by kernel_rfl) rfl (by kernel_rfl) (fun K4 bH=> ?_)
      refine A8 rfl (wp_store_row 27 (.tmp 3) (.tmp 25) rfl gp (ai (gd (K:Int) t w5.heap.size 1 [V])) rfl rfl 27 (ai V) (am (aa kR) ie) dK rfl (ik _) ?_);refine bH _ _ ?_
      (try simp only[aH,aP,aG])
      (try go_frame)
      have ef:=ab (DK (K:=K) (f:=f') (gk:=w5.heap.size) (t:=t) (wr:=wr) (by omega) (by omega) (by rw[eu];have:=cz.size;omega) (hR5.below ie) ((aa aq).trans (cz.trans (But.of_below ie))) (am (dS cz (aa bj) bo) ie) (am (aa kR) ie) (aw rfl) (by have:=cz.size;omega) (by have:=cz.size;omega) (by omega) mN (aa HV).1 (((aa oU).but cz (by omega)).below ie) (aa HEO) (by omega) (aa sq) (aa HM) (by omega))
      clear dP K5 bH cO ew K4 K3 K2 F hS ao aU hb5 hR5 cz ie;go_wp2_with fail;exact aa ef
     ·go_simp
      have ie:Below w4.heap.size w4 (w4.alloc (.cells (ai V) 27)).drew:=(ba _).drew;refine ew _ _ (aa aU _ (am (aa ig) ie)) ?_;refine cg 2 (fun K3 cO=> ?_)
      go_simp;refine(aa yZ _ ie).mono ?_;rintro e w5 ⟨rfl,hb5,hR5⟩;have cz:But z w4 w5:=(But.of_below ie).trans hb5;have kR:=ab (dS cz (aa ig) mN);have pd:=ab (dS hb5 (show (w4.alloc (.cells (ai V) 27)).drew.heap[w4.heap.size]? =some (.cells (ai V) 27 (0,0)) from aw rfl) (by omega))
      refine cO _ _ (aa aU _ (aa kR)) ?_;clear hS;have hS:S0 w5:=aa aU _ (aa kR);refine cg 5 (fun K5 dP=> ?_)
      go_simp;refine dP _ _ hS ?_;refine g5 (by kernel_rfl) rfl (by kernel_rfl) (fun K4 bH=> ?_)
      refine A8 rfl (wp_store_row 27 (.tmp 3) (.tmp 25) rfl gp (ai (gd (K:Int) t w4.heap.size 1 [V])) rfl rfl 27 (ai V) (aa kR) dK rfl (ik _) ?_);refine bH _ _ ?_
      (try simp only[aH,aP,aG])
      (try go_frame)
      have ef:=ab (DK (K:=K) (f:=f') (gk:=w4.heap.size) (t:=t) (wr:=wr) (by omega) (by omega) (by have:=cz.size;omega) hR5 ((aa aq).trans cz) (dS cz (aa bj) bo) (aa kR) (aa pd) (by omega) (by omega) (by omega) mN (aa HV).1 ((aa oU).but cz (by omega)) (aa HEO) (by omega) (aa sq) (aa HM) (by omega))
      clear dP K5 bH cO ew K4 K3 K2 F hS ao aU hb5 hR5 cz ie;go_wp2_with fail;exact aa ef
open Go.RowKit
theorem KidsL.snoc {B z:Nat} {w w4 w6:World} {v v':Value} {L l:List PT} {U:PT} (h:KidsL B w v L l) (hB:B≤w.heap.size) (hb:But z w w4) (hz:z < B) (hL:bd w.heap.size w4 U)
  (aV:cc w6 B 27 5 eO v' (L++[U])) (hg:(w4.alloc (.cells (ai U) 27)).grownBy w6 v.ownBlock) (hn:v'.ownBlock=v.ownBlock∨v'.ownBlock=some (w4.alloc (.cells (ai U) 27)).heap.size):KidsL B w6 v' (L++[U]) (l++[U.can]):=by
 have hb5:Below w4.heap.size w4 (w4.alloc (.cells (ai U) 27)):=ba _;refine⟨aV,by rw[qA,h.can];rfl,fun x hx=> ?_⟩
 rcases rR.1 hx with hx | hx
 ·exact(((h.lies x hx).but hb hz).below hb5).grown hg hn
 ·rw[fE] at hx
  subst hx;exact(((hL.except hB fun i hi=>(h.row.low hi).2)).below hb5).grown hg hn
theorem oy {B k:Nat} {w w':World} {v:Value} {L:List PT} {x:Obj} (hr:cc w B 27 5 eO v L) (hg:w.grownBy w' v.ownBlock) (hk:w.heap[k]? =some x) (hb:k < B):w'.heap[k]? =some x:=
 (hg.block k (bC.1 hk).1 fun e=>by have:=(hr.low e.symm).1;omega).trans hk
theorem Ki {B z:Nat} {w W W':World} {v:Value} {L:List PT} (hr:cc W B 27 5 eO v L) (hg:W.grownBy W' v.ownBlock) (hb:But z w W) (hB:w.heap.size≤B):But z w W':=
 ⟨hg.os.trans hb.os,hg.tape.trans hb.tape,hg.output.trans hb.output,bJ hb.size hg.size,fun k hk hz=>(hg.block k (i6 hk hb.size) fun e=>by have:=(hr.low e.symm).1;omega).trans (hb.block k hk hz)⟩
theorem vS {w:World} {U:PT}:∀k u,(eO U)[k]? =some u→(w.alloc (.cells (ai U) 27)).cell? ⟨w.heap.size,k,none⟩=some u:=fun k u h=>by
 rw[eX _ _ _ _ _ _ (aw rfl),←th];exact h
theorem Lt (d:Nat) (B:Nat→Rd PT) (s:ByteArray) (f:Nat) (l:List PT) (i:Nat):lF d B s (f+1) l i=if kg (nx s i)=true then bO (gQ d B s (sk s i)) fun p j=>lF d B s f (l++[p]) j else .ok (l,sk s i):=rfl
theorem Mm (d:Nat) (B:Nat→Rd PT) (s:ByteArray) (f:Nat) (l:List PT) (i:Nat):lI d B s (f+1) l i=if nx s i=124 then bO (im d B s (sk s i+1)) fun p j=>lI d B s f (l++[p]) j else .ok (l,sk s i):=rfl
structure Kds (w:World) (z:Nat) (s:ByteArray) (o:Int) (wr:World) (v:Value) (k:Nat) (l L:List PT):Prop where
 rdr:bR wr z s k o
 but:But z w wr
 box:wr.heap[w.heap.size]? =some (.cells aB 27 (0,0))
 kids:KidsL (w.heap.size+1) wr v L l
 nonil:L≠[]
 shp:dI wr
theorem Kds.next {w:World} {z:Nat} {s:ByteArray} {o:Int} {wr w':World} {v:Value} {k j:Nat} {l L:List PT} (h:Kds w z s o wr v k l L) (hb:But z wr w') (hR:bR w' z s j o) (hz:z < w.heap.size) (hzG:z≠1):Kds w z s o w' v j l L:=
 ⟨hR,h.but.trans hb,dS hb h.box (by omega),h.kids.but hb (by omega),h.nonil,h.shp.but hb hzG⟩
theorem Kds.size {w:World} {z:Nat} {s:ByteArray} {o:Int} {wr:World} {v:Value} {k:Nat} {l L:List PT} (h:Kds w z s o wr v k l L):w.heap.size+1≤wr.heap.size:=(bC.1 h.box).1
theorem Kds.put {w:World} {z:Nat} {s:ByteArray} {o:Int} {w3 w4 w6:World} {v v':Value} {k j:Nat} {l L:List PT} {U:PT} (h:Kds w z s o w3 v k l L) (hb:But z w3 w4) (hR:bR w4 z s j o) (hz:z < w.heap.size) (hL:bd w3.heap.size w4 U) (hzG:z≠1) (hG:1 < w.heap.size)
  (aV:cc w6 (w.heap.size+1) 27 5 eO v' (L++[U])) (hg:(w4.alloc (.cells (ai U) 27)).grownBy w6 v.ownBlock) (hn:v'.ownBlock=v.ownBlock∨v'.ownBlock=some (w4.alloc (.cells (ai U) 27)).heap.size):Kds w z s o w6 v' j (l++[U.can]) (L++[U]):=by
 have hb5:Below w4.heap.size w4 (w4.alloc (.cells (ai U) 27)):=ba _;have fj:=(h.kids.but hb (by omega)).row.later hb5
 have hs5:=(h.shp.but hb hzG).later hb5;refine⟨oy fj hg (hR.below hb5) (by omega),Ki fj hg (h.but.trans (hb.trans (But.of_below hb5))) (by omega),oy fj hg (am (dS hb h.box (by omega)) hb5) (by omega),h.kids.snoc h.size hb (by omega) hL aV hg hn,by simp, ?_⟩
 refine fun K h1 h2=> ?_
 obtain⟨a,b,c,d⟩:=hs5 K h1 h2;have ks:(w4.alloc (.cells (ai U) 27)).heap.size > 1:=by have:=h.size;have:=hb.size;rw[eu];omega
 have vn:w6.heap[1]? =(w4.alloc (.cells (ai U) 27)).heap[1]? :=hg.block _ ks fun e=>by have:=(fj.low e.symm).1;omega
 have key:∀o,w6.cell? ⟨1,o,none⟩=(w4.alloc (.cells (ai U) 27)).cell? ⟨1,o,none⟩:=fun o=>by
  unfold World.cell?;rw[vn]
 exact⟨(key _).trans a,(key _).trans b,(key _).trans c,(key _).trans d⟩
theorem dI.lt {w:World} (h:dI w):1 < w.heap.size:=by
 obtain⟨a, -, -, -⟩:=h 1 (by decide) (by decide)
 unfold World.cell? at a;rcases cX 1 w.heap.size with q | q
 ·exact q
 ·rw[Array.getElem?_eq_none q] at a;cases a
theorem Dn {d:Nat} {B:ByteArray→Nat→Rd PT} (hB:∀s,eG s (B s)) (sv:oF 183 d (fun s=>gQ d (B s) s)):oF 176 d (fun s=>im d (B s) s):=by
 intro s i z w hs hi hR hS hzG;have hzl:=hR.lt;have hG:=hS.lt;have aZ:But z w (w.alloc (.cells aB 27)):=(But.refl z w).alloc _;have fb:=hR.below ((aW _ _).alloc (ax _) (.cells aB 27));have bo:w.heap.size≠z:=by omega
 have aD:=ab aZ;have ao:=ab (hS.but aZ hzG);have ei:Hid ((w.alloc (.cells aB 27)).heap[w.heap.size]? =some (.cells aB 27 (0,0))):=ab (oE);have HC:Hid (∀i w,i≤s.size→bR w z s i ((200 - d:Nat):Int)→dI w→Calls prog 183 #[.pointer (some ⟨z,0,none⟩)] w fun e w'=>fZ (fv w.heap.size) z s ((200 - d:Nat):Int) w (gQ d (B s) s i) e w'):=ab (fun i w h1 h2 h3=>sv s i z w hs h1 h2 h3 hzG)
 show Calls _ _ _ _ fun e w'=>fZ (fv w.heap.size) z s ((200 - d:Nat):Int) w (im d (B s) s i) e w'
 have eA:Hid (im d (B s) s i=bO (gQ d (B s) s i) fun p j=>bO (lF d (B s) s (s.size+1) [p] j) fun l e=>.ok (iw 18 l,e)):=ab (rfl)
 have pm:=ab (fun i x j h=>vX (d:=d) (hB s) i x j h)
 generalize im d (B s) s i=RR at *;generalize ((200 - d:Nat):Int)=o at *;have sD:=ab (aa HC i _ hi fb (aa ao));have y8:=ab (fun x j=>aa pm i x j hi)
 have HFS:=ab (Lt d (B s) s);generalize lF d (B s) s=F at *;generalize gQ d (B s) s=PP at *;generalize PP i=RB at *;clear aZ fb hR hS sv hB;have HL0:=ab (Eq.refl (w.alloc (.cells aB 27)).heap.size);rcases RB with ⟨er,a1⟩ | ⟨p0,j0⟩
 ·have gA:Hid (RR=.error (er,a1)):=ab (by rw[aa eA,jA])
  go_enter func176,ntmps176;go_wp2_with (refine(aa sD).mono ?_;intro e w3 hP;obtain⟨hb3,rfl⟩:=j9 hP rfl;clear hP;have aq:=ab ((aa aD).trans hb3);clear hb3;unfold aC);exact⟨rfl,fQ (aa gA) (aa aq) rfl⟩
 ·have d6:Hid (RR=bO (F (s.size+1) [p0] j0) fun l e=>.ok (iw 18 l,e)):=ab (by rw[aa eA,dE])
  have nf:=aa y8 p0 j0 rfl;clear eA y8;go_enter func176,ntmps176;go_wp2_with fail;refine(aa sD).mono ?_;intro e w1 hP;obtain⟨hb1,⟨U,rfl,hU,hL⟩,hRd1⟩:=jB hP rfl;have gW:w.heap.size+1≤w1.heap.size:=by have:=hb1.size;rw[eu] at this;exact this
  rw[eu] at hL;have hb2:Below w1.heap.size w1 (w1.alloc (.cells (ai U) 27)):=ba _;have eB:=ab (show Kds w z s o (w1.alloc (.cells (ai U) 27)) (.slice (some ⟨w1.heap.size,0,none⟩) 1 1) j0 [p0] [U] from
   ⟨hRd1.below hb2,((aa aD).trans hb1).trans (But.of_below hb2),am (dS hb1 (aa ei) bo) hb2,hU▸KidsL.one hL (ax _) (by omega),by simp,((aa ao).but hb1 hzG).later hb2⟩)
  clear hP hb1 hRd1 hU hL sD hb2;unfold pv;go_wp2_with fail;rw[show (#[.int .i64 U.k,.string U.t,.int .i64 U.n,.string U.nm,.slice U.xa U.len U.cap]:Array Value)=ai U from rfl];generalize (w1.alloc (.cells (ai U) 27))=w2 at *;generalize Value.slice (some ⟨w1.heap.size,0,none⟩) 1 1=v0 at *;go_loopw [3] (fun v wr=>∃(f k:Nat) (l L:List PT),k≤s.size∧s.size < k+f∧L.length≤k∧Hid (Kds w z s o wr v k l L)∧Hid (RR=bO (F f l k) fun l e=>.ok (iw 18 l,e))) (fun _ wr=>s.size+1 - kI wr z)
  case atStart=>exact⟨s.size+1,j0,[p0],[U],nf.2,by omega,by simp;omega,aa eB,aa d6⟩
  case round=>
   obtain⟨f,k,l,L,hk,hf,hLk,HK,HE⟩:=hrel;have oO:=eM s k hk;have HN:=ab (sL wr hs hk (aa HK).rdr);have HG:=ab (Jz (nx s k) (ke _ _));have HM:=ab (aa HK).rdr.at;obtain⟨f',rfl⟩:∃f',f=f'+1:=⟨f - 1,by omega⟩
   have dl:Hid (RR=bO (if kg (nx s k)=true then bO (PP (sk s k)) fun p j=>F f' (l++[p]) j else .ok (l,sk s k)) fun l e=>.ok (iw 18 l,e)):=ab (by rw[aa HE,aa HFS])
   clear HE eB;have AS:=ab (fun x j=>aa pm (sk s k) x j oO.2)
   have HCk:=ab (fun w h1 h2=>aa HC (sk s k) w oO.2 h1 h2)
   generalize nx s k=b at *;generalize sk s k=m at *
   cases nn:kg b
   ·have eJ:Hid (RR=.ok (iw 18 l,m)):=ab (by rw[aa dl,nn,ac (by decide),dE])
    rw[nn] at HG;clear dl nn AS HCk;go_wp2_with fail;refine(aa HN).mono ?_;rintro e w3 ⟨rfl,hb3,hR3⟩;have cZ:=ab ((aa HK).next hb3 hR3 hzl hzG);clear hb3 hR3;go_wp2_with fail;refine(aa HG _).mono ?_;rintro e w3 ⟨rfl,rfl⟩;have HT:=ab (C2 18 _ L (w.heap.size+1) w3 (aa cZ).kids.row (aa cZ).nonil);go_wp2_with fail;refine(aa HT).mono ?_;rintro e w4 ⟨⟨U2,rfl,eh⟩,hb4⟩;have bZ:=ab (am (aa cZ).box hb4);have tS:Hid (U2.can=iw 18 l∧bd (w.heap.size+1) w4 U2):=ab (⟨by rw[DZ eh,(aa cZ).kids.can];rfl,(DA (by decide) eh (aa cZ).kids).below hb4⟩)
    have dz:=ab ((aa cZ).but.trans (But.of_below hb4));have H4:=ab ((aa cZ).rdr.below hb4);clear eh hb4;unfold pv;go_wp2_with (first
     | (refine aX rfl 27 _ _ rfl w.heap.size (ai U2) rfl rfl 27 aB (aa bZ) dK rfl (ik _) ?_)
     | fail)
    (try simp only[Exit.inBlock,Exit.then])
    refine ck (dT rfl _ _ w.heap.size 27 (ai U2) (0,0) _ rfl (cm _ _ _ _ _ _ (aa bZ)) underlying27 rfl dK) rfl ?_;exact lz (aa eJ) (j7 (aa dz) (ax _) _) ⟨U2,rfl,(aa tS).1,((aa tS).2.setRow (by omega) _).mono (by omega)⟩ ((aa H4).setRow bo _)
   ·have eJ:Hid (RR=bO (bO (PP m) fun p j=>F f' (l++[p]) j) fun l e=>.ok (iw 18 l,e)):=ab (by rw[aa dl,nn,af rfl])
    rw[nn] at HG;clear dl nn HC HFS pm d6;generalize PP m=RP at *;go_wp2_with fail;refine(aa HN).mono ?_;rintro e w3 ⟨rfl,hb3,hR3⟩;have cZ:=ab ((aa HK).next hb3 hR3 hzl hzG);clear hb3 hR3;go_wp2_with fail;refine(aa HG _).mono ?_;rintro e w3 ⟨rfl,rfl⟩;rcases RP with ⟨er,a1⟩ | ⟨p,a1⟩
    ·have jP:Hid (RR=.error (er,a1)):=ab (by rw[aa eJ,jA,jA])
     go_wp2_with (refine(aa HCk _ (aa cZ).rdr (aa cZ).shp).mono ?_;intro e w4 hP;obtain⟨hb4,rfl⟩:=j9 hP rfl;clear hP;have dz:=ab ((aa cZ).but.trans hb4);clear hb4;unfold aC);exact⟨rfl,fQ (aa jP) (aa dz) rfl⟩
    ·have jP:Hid (RR=bO (F f' (l++[p]) a1) fun l e=>.ok (iw 18 l,e)):=ab (by rw[aa eJ,dE])
     have yN:=aa AS p a1 rfl;go_wp2_with fail;refine(aa HCk _ (aa cZ).rdr (aa cZ).shp).mono ?_;intro e w4 hP;obtain⟨hb4,⟨U2,rfl,eh,hL2⟩,hR4⟩:=jB hP rfl;have gB:=ab (And.intro hb4 (And.intro hL2 (And.intro hR4 eh)));have hb5:Below w4.heap.size w4 (w4.alloc (.cells (ai U2) 27)):=ba _;have vF:=ab (((aa cZ).kids.but hb4 (by omega)).row.later hb5)
     have yQ:w.heap.size+1≤(w4.alloc (.cells (ai U2) 27)).heap.size:=by have h1:=(aa cZ).size;have h2:=hb4.size;rw[eu];omega
     clear hP hb4 hL2 hR4 eh hb5;unfold pv;go_wp2_with (first
      | (at_builtin;refine xP underlying25 vT rfl (by decide) (by decide) jh nK rfl _ _ rfl (aa vF) yQ U2 w4.heap.size 1 rfl rfl vS (by omega) ?_;intro v' w6 aV bS dX)
      | fail)
     have pb:=ab ((aa cZ).put (aa gB).1 (aa gB).2.2.1 hzl (aa gB).2.1 hzG hG aV bS dX);clear aV bS dX yQ;go_wp2_with fail;have h6:=(aa pb).rdr.at;exact⟨⟨f',a1,l++[p],L++[U2],by omega,by omega,by simp;omega,by have h:=aa pb;rw[(aa gB).2.2.2] at h;exact h,aa jP⟩,by rw[h6,aa HM];omega⟩
open Go.RowKit
theorem EH {d:Nat} {B:ByteArray→Nat→Rd PT} (hB:∀s,eG s (B s)) (sv:oF 176 d (fun s=>im d (B s) s)):oF 166 d (fun s=>lX d (B s) s):=by
 intro s i z w hs hi hR hS hzG;have hzl:=hR.lt;have hG:=hS.lt;have aZ:But z w (w.alloc (.cells aB 27)):=(But.refl z w).alloc _;have fb:=hR.below ((aW _ _).alloc (ax _) (.cells aB 27));have bo:w.heap.size≠z:=by omega
 have aD:=ab aZ;have ao:=ab (hS.but aZ hzG);have ei:Hid ((w.alloc (.cells aB 27)).heap[w.heap.size]? =some (.cells aB 27 (0,0))):=ab (oE);have HC:Hid (∀i w,i≤s.size→bR w z s i ((200 - d:Nat):Int)→dI w→Calls prog 176 #[.pointer (some ⟨z,0,none⟩)] w fun e w'=>fZ (fv w.heap.size) z s ((200 - d:Nat):Int) w (im d (B s) s i) e w'):=ab (fun i w h1 h2 h3=>sv s i z w hs h1 h2 h3 hzG)
 show Calls _ _ _ _ fun e w'=>fZ (fv w.heap.size) z s ((200 - d:Nat):Int) w (lX d (B s) s i) e w'
 have eA:Hid (lX d (B s) s i=bO (im d (B s) s i) fun p j=>bO (lI d (B s) s (s.size+1) [p] j) fun l e=>.ok (iw 19 l,e)):=ab (rfl)
 have pm:=ab (fun i x j h=>vY (d:=d) (hB s) i x j h)
 generalize lX d (B s) s i=RR at *;generalize ((200 - d:Nat):Int)=o at *;have sD:=ab (aa HC i _ hi fb (aa ao));have y8:=ab (fun x j=>aa pm i x j hi)
 have HFS:=ab (Mm d (B s) s);generalize lI d (B s) s=F at *;generalize im d (B s) s=PP at *;generalize PP i=RB at *;clear aZ fb hR hS sv hB;have HL0:=ab (Eq.refl (w.alloc (.cells aB 27)).heap.size);rcases RB with ⟨er,a1⟩ | ⟨p0,j0⟩
 ·have gA:Hid (RR=.error (er,a1)):=ab (by rw[aa eA,jA])
  go_enter func166,ntmps166;go_wp2_with (refine(aa sD).mono ?_;intro e w3 hP;obtain⟨hb3,rfl⟩:=j9 hP rfl;clear hP;have aq:=ab ((aa aD).trans hb3);clear hb3;unfold aC);exact⟨rfl,fQ (aa gA) (aa aq) rfl⟩
 ·have d6:Hid (RR=bO (F (s.size+1) [p0] j0) fun l e=>.ok (iw 19 l,e)):=ab (by rw[aa eA,dE])
  have nf:=aa y8 p0 j0 rfl;clear eA y8;go_enter func166,ntmps166;go_wp2_with fail;refine(aa sD).mono ?_;intro e w1 hP;obtain⟨hb1,⟨U,rfl,hU,hL⟩,hRd1⟩:=jB hP rfl;have gW:w.heap.size+1≤w1.heap.size:=by have:=hb1.size;rw[eu] at this;exact this
  rw[eu] at hL;have hb2:Below w1.heap.size w1 (w1.alloc (.cells (ai U) 27)):=ba _;have eB:=ab (show Kds w z s o (w1.alloc (.cells (ai U) 27)) (.slice (some ⟨w1.heap.size,0,none⟩) 1 1) j0 [p0] [U] from
   ⟨hRd1.below hb2,((aa aD).trans hb1).trans (But.of_below hb2),am (dS hb1 (aa ei) bo) hb2,hU▸KidsL.one hL (ax _) (by omega),by simp,((aa ao).but hb1 hzG).later hb2⟩)
  clear hP hb1 hRd1 hU hL sD hb2;unfold pv;go_wp2_with fail;rw[show (#[.int .i64 U.k,.string U.t,.int .i64 U.n,.string U.nm,.slice U.xa U.len U.cap]:Array Value)=ai U from rfl];generalize (w1.alloc (.cells (ai U) 27))=w2 at *;generalize Value.slice (some ⟨w1.heap.size,0,none⟩) 1 1=v0 at *;go_loopw [3] (fun v wr=>∃(f k:Nat) (l L:List PT),k≤s.size∧s.size < k+f∧L.length≤k∧Hid (Kds w z s o wr v k l L)∧Hid (RR=bO (F f l k) fun l e=>.ok (iw 19 l,e))) (fun _ wr=>s.size+1 - kI wr z)
  case atStart=>exact⟨s.size+1,j0,[p0],[U],nf.2,by omega,by simp;omega,aa eB,aa d6⟩
  case round=>
   obtain⟨f,k,l,L,hk,hf,hLk,HK,HE⟩:=hrel;have oO:=eM s k hk;have HN:=ab (sL wr hs hk (aa HK).rdr);have HM:=ab (aa HK).rdr.at;obtain⟨f',rfl⟩:∃f',f=f'+1:=⟨f - 1,by omega⟩
   have dl:Hid (RR=bO (if nx s k=124 then bO (PP (sk s k+1)) fun p j=>F f' (l++[p]) j else .ok (l,sk s k)) fun l e=>.ok (iw 19 l,e)):=ab (by rw[aa HE,aa HFS])
   clear HE eB;have dR:=ab (fun (h:nx s k=124)=>kU (s:=s) (i:=k) (by omega))
   generalize nx s k=b at *;generalize sk s k=m at *
   by_cases nn:¬b=124
   ·have eJ:Hid (RR=.ok (iw 19 l,m)):=ab (by rw[aa dl,ac nn,dE])
    have e0:((b:Int)==124)=false:=bn;clear dl nn dR;go_wp2_with fail;refine(aa HN).mono ?_;rintro e w3 ⟨rfl,hb3,hR3⟩;have cZ:=ab ((aa HK).next hb3 hR3 hzl hzG);clear hb3 hR3;go_wp2_with fail;have HT:=ab (C2 19 _ L (w.heap.size+1) w3 (aa cZ).kids.row (aa cZ).nonil);go_wp2_with fail;refine(aa HT).mono ?_;rintro e w4 ⟨⟨U2,rfl,eh⟩,hb4⟩;have bZ:=ab (am (aa cZ).box hb4);have tS:Hid (U2.can=iw 19 l∧bd (w.heap.size+1) w4 U2):=ab (⟨by rw[DZ eh,(aa cZ).kids.can];rfl,(DA (by decide) eh (aa cZ).kids).below hb4⟩)
    have dz:=ab ((aa cZ).but.trans (But.of_below hb4));have H4:=ab ((aa cZ).rdr.below hb4);clear eh hb4;unfold pv;go_wp2_with (first
     | (refine aX rfl 27 _ _ rfl w.heap.size (ai U2) rfl rfl 27 aB (aa bZ) dK rfl (ik _) ?_)
     | fail)
    (try simp only[Exit.inBlock,Exit.then])
    refine ck (dT rfl _ _ w.heap.size 27 (ai U2) (0,0) _ rfl (cm _ _ _ _ _ _ (aa bZ)) underlying27 rfl dK) rfl ?_;exact lz (aa eJ) (j7 (aa dz) (ax _) _) ⟨U2,rfl,(aa tS).1,((aa tS).2.setRow (by omega) _).mono (by omega)⟩ ((aa H4).setRow bo _)
   ·have nn:=Decidable.not_not.1 nn
    have eJ:Hid (RR=bO (bO (PP (m+1)) fun p j=>F f' (l++[p]) j) fun l e=>.ok (iw 19 l,e)):=ab (by rw[aa dl,af nn])
    have hmlt:=aa dR nn;have AS:=ab (fun x j=>aa pm (m+1) x j (by omega))
    have HCk:=ab (fun w h1 h2=>aa HC (m+1) w (by omega) h1 h2)
    have e0:((b:Int)==124)=true:=bt;clear dl HC HFS pm d6 dR;subst nn;generalize PP (m+1)=RP at *;go_wp2_with fail;refine(aa HN).mono ?_;rintro e w3 ⟨rfl,hb3,hR3⟩;have cZ:=ab ((aa HK).next (hb3.trans ((But.refl z w3).setCell 1 (.int .i64 ((m+1:Nat):Int)))) (hR3.set1 (m+1)) hzl hzG);have c1:=hR3.c1;have fz:=hR3.fz 1;clear hb3 hR3;go_wp2_with fail;rw[show ((m+1:Nat):Int)=(m:Int)+1 from rfl] at cZ;generalize w3.setCell ⟨z,1,none⟩ (.int .i64 ((m:Int)+1))=w3 at *;clear c1 fz;rcases RP with ⟨er,a1⟩ | ⟨p,a1⟩
    ·have jP:Hid (RR=.error (er,a1)):=ab (by rw[aa eJ,jA,jA])
     go_wp2_with (refine(aa HCk _ (aa cZ).rdr (aa cZ).shp).mono ?_;intro e w4 hP;obtain⟨hb4,rfl⟩:=j9 hP rfl;clear hP;have dz:=ab ((aa cZ).but.trans hb4);clear hb4;unfold aC);exact⟨rfl,fQ (aa jP) (aa dz) rfl⟩
    ·have jP:Hid (RR=bO (F f' (l++[p]) a1) fun l e=>.ok (iw 19 l,e)):=ab (by rw[aa eJ,dE])
     have yN:=aa AS p a1 rfl;go_wp2_with fail;refine(aa HCk _ (aa cZ).rdr (aa cZ).shp).mono ?_;intro e w4 hP;obtain⟨hb4,⟨U2,rfl,eh,hL2⟩,hR4⟩:=jB hP rfl;have gB:=ab (And.intro hb4 (And.intro hL2 (And.intro hR4 eh)));have hb5:Below w4.heap.size w4 (w4.alloc (.cells (ai U2) 27)):=ba _;have vF:=ab (((aa cZ).kids.but hb4 (by omega)).row.later hb5)
     have yQ:w.heap.size+1≤(w4.alloc (.cells (ai U2) 27)).heap.size:=by have h1:=(aa cZ).size;have h2:=hb4.size;rw[eu];omega
     clear hP hb4 hL2 hR4 eh hb5;unfold pv;go_wp2_with (first
      | (at_builtin;refine xP underlying25 vT rfl (by decide) (by decide) jh nK rfl _ _ rfl (aa vF) yQ U2 w4.heap.size 1 rfl rfl vS (by omega) ?_;intro v' w6 aV bS dX)
      | fail)
     have pb:=ab ((aa cZ).put (aa gB).1 (aa gB).2.2.1 hzl (aa gB).2.1 hzG hG aV bS dX);clear aV bS dX yQ;go_wp2_with fail;have h6:=(aa pb).rdr.at;exact⟨⟨f',a1,l++[p],L++[U2],by omega,by omega,by simp;omega,by have h:=aa pb;rw[(aa gB).2.2.2] at h;exact h,aa jP⟩,by rw[h6,aa HM];omega⟩
end Go.Proofs.YtlmnjbipfacniaaGreatDoor
