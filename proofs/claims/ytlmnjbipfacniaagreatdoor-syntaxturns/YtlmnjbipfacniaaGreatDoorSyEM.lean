/- What is wrong with a text, and where, is small. The reader o -/
import Derived.Test.YtlmnjbipfacniaaGreatDoorRtEM
import Derived.Test.YtlmnjbipfacniaaGreatDoorSyDM
set_option maxRecDepth 100000
set_option maxHeartbeats 4000000
namespace Go.Proofs.YtlmnjbipfacniaaGreatDoor
open Go.Proofs.Tryz
open Go.RowKit
def Eb {α:Type} (s:ByteArray) (P:Nat→Rd α):Prop:=∀i er a,i≤s.size→P i=.error (er,a)→0≤er∧er≤8∧a≤s.size+1
theorem wX (s:ByteArray) (c:Nat):Eb s (eF s c):=fun i er a hi h=>by
 unfold eF at h;split at h
 ·cases h
 ·injection h with h;injection h with hA hB;(first | omega | (have q9:=eM s i hi;omega))
theorem Gk (s:ByteArray):Eb s (gR s):=fun i er a hi h=>by
 unfold gR at h;split at h
 ·split at h
  ·injection h with h;injection h with hA hB;(first | omega | (have q9:=eM s i hi;omega))
  ·cases h
 ·injection h with h;injection h with hA hB;(first | omega | (have q9:=eM s i hi;omega))
theorem nuP_eb (s:ByteArray):Eb s (mB s):=fun i er a hi h=>by
 unfold mB at h;split at h
 ·split at h
  ·injection h with h;injection h with hA hB;(first | omega | (have q9:=eM s i hi;omega))
  ·split at h
   ·injection h with h;injection h with hA hB;(first | omega | (have q9:=eM s i hi;omega))
   ·cases h
 ·injection h with h;injection h with hA hB;(first | omega | (have q9:=eM s i hi;omega))
theorem F0 (s:ByteArray):Eb s (fun i=>jV s i):=fun i er a hi h=>by
 have h':jV s i=.error (er,a):=h;unfold jV at h';split at h'
 ·cases h'
 ·injection h' with h';injection h' with hA hB;(first | omega | (have q9:=eM s i hi;omega))
theorem fiP_eb (s:ByteArray):Eb s (lH s):=fun i er a hi h=>by
 unfold lH at h;split at h
 ·rcases ed h with h | ⟨t,j,h1,h⟩
  ·exact F0 s _ _ _ (eM s i hi).2 h
  ·split at h
   ·injection h with h;injection h with hA hB;(first | omega | (have q9:=eM s i hi;omega))
   ·cases h
 ·injection h with h;injection h with hA hB;(first | omega | (have q9:=eM s i hi;omega))
theorem E6 {d:Nat} {B:Nat→Rd PT} {s:ByteArray} (hB:eG s B) (hN:0 < d→Eb s B):Eb s (jD d B s):=fun i er a hi h=>by
 unfold jD at h;rcases ed h with h | ⟨u,j,h1,h⟩
 ·exact wX s 40 i er a hi h
 ·have k1:=nH s 40 (by decide) i u j hi h1
  split at h
  ·injection h with h;injection h with hA hB;(first | omega | (have q9:=eM s i hi;omega))
  ·rcases ed h with h | ⟨p,k,h2,h⟩
   ·exact hN (by omega) j er a k1.2 h
   ·have k2:=hB j p k k1.2 h2
    rcases ed h with h | ⟨u,m,h3,h⟩
    ·exact wX s 41 k er a k2.2 h
    ·cases h
theorem woP_eb {d:Nat} {B:Nat→Rd PT} {s:ByteArray} (hB:eG s B) (hN:0 < d→Eb s B) {i:Nat} {er:Int} {a:Nat} (hl:di (aj s i)=true) (h:fB d B s i=.error (er,a)):0≤er∧er≤8∧a≤s.size+1:=by
 have h0:=px hl;unfold fB at h;split at h
 ·injection h with h;injection h with hA hB;(first | omega | (have q9:=eM s i hi;omega))
 ·split at h
  ·rcases ed h with h | ⟨u,j,h1,h⟩
   ·exact E6 hB hN _ _ _ h0.2 h
   ·cases h
  ·split at h
   ·rcases ed h with h | ⟨u,j,h1,h⟩
    ·exact wX s 40 _ _ _ h0.2 h
    ·have k1:=nH s 40 (by decide) _ u j h0.2 h1
     rcases ed h with h | ⟨n,k,h2,h⟩
     ·exact nuP_eb s _ _ _ k1.2 h
     ·have k2:=zS s j n k k1.2 h2
      rcases ed h with h | ⟨u,m,h3,h⟩
      ·exact wX s 41 _ _ _ k2.2 h
      ·cases h
   ·split at h
    ·rcases ed h with h | ⟨u,j,h1,h⟩
     ·exact wX s 40 _ _ _ h0.2 h
     ·have k1:=nH s 40 (by decide) _ u j h0.2 h1
      rcases ed h with h | ⟨n,k,h2,h⟩
      ·exact fiP_eb s _ _ _ k1.2 h
      ·have k2:=zX s j n k k1.2 h2
       rcases ed h with h | ⟨u,m,h3,h⟩
       ·exact wX s 41 _ _ _ k2.2 h
       ·cases h
    ·cases h
theorem baP_eb {d:Nat} {B:Nat→Rd PT} {s:ByteArray} (hB:eG s B) (hN:0 < d→Eb s B):Eb s (jG d B s):=fun i er a hi h=>by
 have h0:=eM s i hi;unfold jG at h;split at h
 ·rcases ed h with h | ⟨u,j,h1,h⟩
  ·exact F0 s _ _ _ h0.2 h
  ·cases h
 ·split at h
  ·exact E6 hB hN _ _ _ h0.2 h
  ·have key:∀k,nx s i≠0→(bO (gR s (sk s i+1)) fun t e=>(.ok (aI k ⟨#[]⟩ 0 t [],e):Rd PT))=.error (er,a)→0≤er∧er≤8∧a≤s.size+1:=fun k hn h=>by
    have h3:=kU hn;rcases ed h with h | ⟨u,j,h1,h⟩
    ·exact Gk s _ _ _ (by omega) h
    ·cases h
   split at h
   ·exact key 23 (by omega) h
   ·split at h
    ·exact key 24 (by omega) h
    ·split at h
     ·rename_i hl
      exact woP_eb hB hN hl h
     ·injection h with h;injection h with hA hB;(first | omega | (have q9:=eM s i hi;omega))
theorem Gt (s:ByteArray):∀f p i er a,i≤s.size→s.size < i+f→iP s f p i=.error (er,a)→0≤er∧er≤8∧a≤s.size+1
 | 0,p,i,er,a,hi,hf,h=>by omega
 | f+1,p,i,er,a,hi,hf,h=>by
  have h0:=eM s i hi;rw[iP] at h
  by_cases q:iO (nx s i)=0
  ·rw[af q] at h;cases h
  ·rw[ac q] at h
   have hn:nx s i≠0:=fun z=>q (by rw[z];rfl)
   have h3:=kU hn;rcases ed h with h | ⟨t,e,h1,h⟩
   ·exact Gk s _ _ _ (by omega) h
   ·have h4:=v8 s (sk s i+1) t e (by omega) h1
    exact Gt s f _ e er a h4.2 (by omega) h
theorem F7 {d:Nat} {B:Nat→Rd PT} {s:ByteArray} (hB:eG s B) (hN:0 < d→Eb s B):Eb s (gQ d B s):=fun i er a hi h=>by
 unfold gQ at h;rcases ed h with h | ⟨p,j,h1,h⟩
 ·exact baP_eb hB hN _ _ _ hi h
 ·have k1:=Ad hB i p j hi h1
  exact Gt s _ _ _ _ _ k1.2 (by omega) h
theorem Gb {d:Nat} {B:Nat→Rd PT} {s:ByteArray} (hB:eG s B) (hN:0 < d→Eb s B):∀f l i er a,i≤s.size→s.size < i+f→lF d B s f l i=.error (er,a)→0≤er∧er≤8∧a≤s.size+1
 | 0,l,i,er,a,hi,hf,h=>by omega
 | f+1,l,i,er,a,hi,hf,h=>by
  have h0:=eM s i hi;rw[lF] at h
  by_cases q:kg (nx s i)=true
  ·rw[af q] at h
   rcases ed h with h | ⟨t,e,h1,h⟩
   ·exact F7 hB hN _ _ _ h0.2 h
   ·have h3:=vX hB _ t e h0.2 h1
    exact Gb hB hN f _ e er a h3.2 (by omega) h
  ·rw[ac q] at h;cases h
theorem F9 {d:Nat} {B:Nat→Rd PT} {s:ByteArray} (hB:eG s B) (hN:0 < d→Eb s B):Eb s (im d B s):=fun i er a hi h=>by
 unfold im at h;rcases ed h with h | ⟨p,j,h1,h⟩
 ·exact F7 hB hN _ _ _ hi h
 ·have k1:=vX hB i p j hi h1
  rcases ed h with h | ⟨l,e,h2,h⟩
  ·exact Gb hB hN _ _ _ _ _ k1.2 (by omega) h
  ·cases h
theorem GO {d:Nat} {B:Nat→Rd PT} {s:ByteArray} (hB:eG s B) (hN:0 < d→Eb s B):∀f l i er a,i≤s.size→s.size < i+f→lI d B s f l i=.error (er,a)→0≤er∧er≤8∧a≤s.size+1
 | 0,l,i,er,a,hi,hf,h=>by omega
 | f+1,l,i,er,a,hi,hf,h=>by
  have h0:=eM s i hi;rw[lI] at h
  by_cases q:nx s i=124
  ·rw[af q] at h
   have hn:=kU (s:=s) (i:=i) (by omega)
   rcases ed h with h | ⟨t,e,h1,h⟩
   ·exact F9 hB hN _ _ _ (by omega) h
   ·have h3:=vY hB _ t e (by omega) h1
    exact GO hB hN f _ e er a h3.2 (by omega) h
  ·rw[ac q] at h;cases h
theorem GM {d:Nat} {B:Nat→Rd PT} {s:ByteArray} (hB:eG s B) (hN:0 < d→Eb s B):Eb s (lX d B s):=fun i er a hi h=>by
 unfold lX at h;rcases ed h with h | ⟨p,j,h1,h⟩
 ·exact F9 hB hN _ _ _ hi h
 ·have k1:=vY hB i p j hi h1
  rcases ed h with h | ⟨l,e,h2,h⟩
  ·exact GO hB hN _ _ _ _ _ k1.2 (by omega) h
  ·cases h
theorem GQ (s:ByteArray):∀d,Eb s (iY s d)
 | 0=>fun i er a hi h=>GM (d:=0) (B:=fun j=>.error (0,j)) (fun i x j _ h=>by cases h) (fun h=>absurd h (by decide)) i er a hi (by rw[iY] at h;exact h)
 | d+1=>fun i er a hi h=>GM (yp s d) (fun _=>GQ s d) i er a hi (by rw[iY] at h;exact h)
theorem rdA_eb {s:ByteArray} {er:Int} {a:Nat} (h:m5 s=.error (er,a)):0≤er∧er≤8∧a≤s.size+1:=by
 unfold m5 at h;rcases ed h with h | ⟨p,j,h1,h⟩
 ·exact GQ s _ _ _ _ (cU _) h
 ·split at h
  ·injection h with h;injection h with hA hB;(first | omega | (have q9:=eM s i hi;omega))
  ·cases h
open Go.RowKit
theorem ptS_no {E:Nat} {l:List Tk} (h:(ak E 0 l).k≠4):lE E l=.error (2,(ak E 0 l).a):=ac h
theorem MS {E:Nat} {l:List Tk} {er:Int} {i:Nat} (h:(ak E 0 l).k=4) (hr:jq (ak E 0 l).t=.error (er,i)):lE E l=.error (er,(ak E 0 l).a+1+i):=by unfold lE;rw[af h,hr]
theorem ptS_ok {E:Nat} {l:List Tk} {p:PT} {j:Nat} (h:(ak E 0 l).k=4) (hr:jq (ak E 0 l).t=.ok (p,j)):lE E l=.ok (p,l.tail):=by unfold lE;rw[af h,hr]
theorem rdP_eb {s:ByteArray} {er:Int} {a:Nat} (h:jq s=.error (er,a)):er≠0∧0≤er∧er≤8∧a≤s.size+1:=by
 unfold jq at h;split at h
 ·injection h with h;injection h with h1 h2;subst h1 h2;exact⟨by decide,by decide,by decide,cU _⟩
 ·rcases ed h with q | ⟨p,j, -,q⟩
  ·exact⟨Cb q,rdA_eb q⟩
  ·split at q
   ·cases q
   ·injection q with q;injection q with h1 h2;subst h1 h2;exact⟨by decide,by decide,by decide,cU _⟩
theorem Syr.setRow {C:SyC} {w:World} {l:List Tk} {o g:Nat} (h:Syr C w l o) (h1:g≠C.z) (h2:g≠C.g) (h3:g≠C.bb) (cs:Array Value):Syr C (w.setRow g cs) l o:=h.same (dH w g _ cs (fun e=>h1 e.symm)) (dH w g _ cs (fun e=>h2 e.symm)) (dH w g _ cs (fun e=>h3 e.symm))
theorem M5 {w:World}:(w.alloc (.cells aB 27)).heap[w.heap.size]? =some (.cells aB 27 (0,0)):=aw rfl
theorem C3 {C:SyC} {l:List Tk} {o:Nat} (w:World) (hR:Syr C w l o) (hE:SyEnv C w):Calls prog 102 #[.pointer (some ⟨C.z,0,none⟩)] w fun e w'=>fV (fv w.heap.size) C o w (lE C.E l) e w':=by
 have aZ:Below w.heap.size w (w.alloc (.cells aB 27)):=ba _;have HA:=ab (rp _ (hR.below aZ));have HR:=ab hR;have HE:=ab hE;have iR:=xn hR 0;have HS:=ab (fun w h=>rq (C:=C) (l:=l) (o:=o) w h)
 have HP:=ab (fun (q:(ak C.E 0 l).k=4) w h=>un (l:=l) (o:=o) (C:=C) w h (yA (E:=C.E) (by rw[q];decide)))
 have HRD:=ab (fun w h=>Li (ak C.E 0 l).t w h)
 obtain⟨RR,bM⟩:∃RR,RR=lE C.E l:=⟨_,rfl⟩;rw[←bM];have H1:=ab (fun h=>bM.trans (ptS_no (E:=C.E) (l:=l) h))
 have H2:=ab (fun er i h q=>bM.trans (MS (E:=C.E) (l:=l) (er:=er) (i:=i) h q))
 have H3:=ab (fun p j h q=>bM.trans (ptS_ok (E:=C.E) (l:=l) (p:=p) (j:=j) h q))
 have aD:=ab aZ;have bq:=ab (M5 (w:=w));have hzl:=hR.lt;clear hR hE bM aZ;generalize ak C.E 0 l=t at *;unfold jC at HA;have ay:=iR.2.1;have hta:=iR.2.2.1;clear iR;have oQ:=fun (W:World)=>(aW W.heap.size W).alloc (ax _) (.cells #[.int .i64 (t.k:Int),.string t.t,.int .i64 (t.a:Int)] 102)
 by_cases h4:t.k=4
 ·have q4:((t.k:Int) !=4)=false:=by rw[bne,Bool.not_eq_false',tp];omega
  have iq:=ab (aa HP h4);have H2:=ab (fun er i=>aa H2 er i h4)
  have H3:=ab (fun p j=>aa H3 p j h4)
  clear H1 HP h4 HS;go_enter func102,ntmps102;go_wp2_with fail;refine(aa HA).mono ?_;rintro e w2 ⟨rfl,hb2⟩;have hb02:=ap (aa aD) hb2;have aF:=ab (ap hb02 (oQ w2));have dY:Hid ((w2.alloc (.cells #[.int .i64 (t.k:Int),.string t.t,.int .i64 (t.a:Int)] 102)).heap[w2.heap.size]? =some (.cells #[.int .i64 (t.k:Int),.string t.t,.int .i64 (t.a:Int)] 102 (0,0))):=ab (aw rfl);have tQ:=ab (am (aa bq) (ap hb2 (oQ w2)));have HRD2:=ab (aa HRD _ ((aa HE).below (aa aF)).sh);have gH:w.heap.size < w2.heap.size:=(bC.1 (am (aa bq) hb2)).1;clear hb2 hb02 HRD HA;go_wp2_with fail;refine(aa HRD2).mono ?_;rintro e w3 ⟨hb3,gi,qQ⟩
  cases hq:jq t.t with
  | error x=>
   obtain⟨er,i⟩:=x;have hee:=qQ er i hq;subst hee;have HQ:=ab (aa H2 er i hq);have dp:=am (aa dY) hb3;have aq:=ab (ap (aa aF) hb3);obtain⟨bY,he0,he8,hil⟩:=rdP_eb hq;have d2:w3.cell? ⟨w2.heap.size,2,none⟩=some (.int .i64 (t.a:Int)):=cr dp;have hxl:w2.heap.size < w3.heap.size:=de _ _ d2;have hil2:i≤2001:=by omega
   have qe:(er !=0)=true:=by rw[bne,Bool.not_eq_true',pL];exact bY
   have HT:=ab (fun w=>ul er (t.a+1+i) w)
   rw[show ((t.a+1+i:Nat):Int)=(t.a:Int)+1+(i:Int) by omega] at HT
   have HAL3:Hid (Below w3.heap.size w3 ((w3.alloc (.cells aB 27)).alloc (.cells #[.int .i64 er,.int .i64 (i:Int)] 36))):=ab ((ba _).alloc (by rw[eu];omega) _)
   clear hb3 gi qQ hq dp bY hil iq H2 H3 HRD2;unfold du aB;unfold aB at HAL3;go_wp2_with fail;refine(aa HT _).mono ?_;rintro e w4 ⟨rfl,rfl⟩;unfold aC;go_wp2_with fail;exact⟨rfl,fH (aa HQ) (But.of_below (ap (aa aq) (aa HAL3))) rfl⟩
  | ok x=>
   obtain⟨p,j⟩:=x;obtain⟨U,hee,cE,cS⟩:=gi p j hq;subst hee;have HQ:=ab (aa H3 p j hq);have hy3:=am (aa tQ) hb3;have AI:Below w3.heap.size w3 ((w3.alloc (.cells (ai U) 27)).alloc (.cells #[.int .i64 0,.int .i64 0] 36)):=(ba _).alloc (by rw[eu];omega) _
   have aq:=ab (ap (ap (aa aF) hb3) AI);have oS:=ab (am hy3 AI);have oU:Hid (((w3.alloc (.cells (ai U) 27)).alloc (.cells #[.int .i64 0,.int .i64 0] 36)).heap[w3.heap.size]? =some (.cells (ai U) 27 (0,0))):=ab (bL (by rw[eu];omega) (aw rfl))
   have kB:Hid (U.can=p∧bd (w.heap.size+1) ((w3.alloc (.cells (ai U) 27)).alloc (.cells #[.int .i64 0,.int .i64 0] 36)) U):=ab (⟨cE,((cS.mono (by rw[eu];omega)).below AI)⟩)
   have hwl3:w.heap.size < w3.heap.size:=(bC.1 hy3).1;clear hb3 gi qQ hq cE cS hy3 AI H2 H3 HRD2;unfold du pv;unfold ai at aq oS oU kB;go_wp2_with fail;refine(aa iq _ ((aa HR).below (aa aq))).mono ?_;rintro e w6 ⟨rfl,hb6,hR6⟩;have hy6:=hb6.row (show w.heap.size≠C.z by omega) (aa oS)
   have eg:=hb6.row (show w3.heap.size≠C.z by omega) (aa oU)
   obtain⟨v0,v1,v2,v3,v4⟩:=ej eg;have HY6:=ab hy6;have HZ:Hid (But C.z w w6∧Syr C w6 l.tail o∧U.can=p∧bd (w.heap.size+1) w6 U):=ab (⟨(But.of_below (aa aq)).trans hb6,hR6,(aa kB).1,(aa kB).2.but hb6 (by omega)⟩)
   clear hb6 hR6 hy6 eg oU oS kB;go_wp2_with (first
    | (refine aX rfl 27 _ _ rfl w.heap.size (ai U) rfl rfl 27 aB (aa HY6) dK rfl (ik U) ?_)
    | fail)
   (try simp only[Exit.inBlock,Exit.then])
   refine ck (dT rfl _ _ w.heap.size 27 (ai U) (0,0) _ rfl (cm _ _ _ _ _ _ (aa HY6)) underlying27 rfl dK) rfl ?_;exact nI (aa HQ) (j7 (aa HZ).1 (ax _) _) ⟨U,rfl,(aa HZ).2.2.1,((aa HZ).2.2.2.setRow (by omega) _).mono (by omega)⟩ ((aa HZ).2.1.setRow (by omega) (by have:=(aa HR).gl;omega) (by have:=(aa HR).map.lt;omega) _)
 ·have q4:((t.k:Int) !=4)=true:=by rw[bne,Bool.not_eq_true',pL];omega
  have HQ:=ab (aa H1 h4);clear H1 H2 H3 HP HRD h4;go_enter func102,ntmps102;go_wp2_with fail;refine(aa HA).mono ?_;rintro e w2 ⟨rfl,hb2⟩;have aF:=ab (ap (ap (aa aD) hb2) (oQ w2));clear hb2;go_wp2_with fail;refine(aa HS _ ((aa HR).below (aa aF))).mono ?_;rintro e w3 ⟨rfl,hb3⟩;have aq:=ab (ap (aa aF) hb3);clear hb3;unfold aC;go_wp2_with fail;exact⟨rfl,fH (aa HQ) (But.of_below (aa aq)) rfl⟩
open Go.RowKit
theorem dD {w:World} {z:Nat} {ty:TypeId} {v0 v1 v2 v3 v4:Value} (h:w.heap[z]? =some (.cells #[v0,v1,v2,v3,v4] ty (0,0))):
  w.cell? ⟨z,0,none⟩=some v0∧w.cell? ⟨z,1,none⟩=some v1∧w.cell? ⟨z,2,none⟩=some v2∧w.cell? ⟨z,3,none⟩=some v3∧w.cell? ⟨z,4,none⟩=some v4:=by
 refine⟨?_, ?_, ?_, ?_, ?_⟩ <;> (rw[eX _ _ _ _ _ _ h];rfl)
theorem eT:(prog.info? 24).map (·.size)=some 5:=by kernel_rfl
theorem Co {w:World}:(w.alloc (.cells aB 24)).heap[w.heap.size]? =some (.cells aB 24 (0,0)):=aw rfl
def nN (f:FuncId) (d:Nat) (P:Nat→List Tk→Sy PT):Prop:=∀(C:SyC) (l:List Tk) (w:World),Syr C w l (400 - d)→SyEnv C w→
 Calls prog f #[.pointer (some ⟨C.z,0,none⟩)] w fun e w'=>fV (fv w.heap.size) C (400 - d) w (P C.E l) e w'
def yF (d lv:Nat):Prop:=∀(C:SyC) (l:List Tk) (w:World),Syr C w l (400 - d)→SyEnv C w→
 Calls prog 151 #[.pointer (some ⟨C.z,0,none⟩),.int .i64 (lv:Int)] w fun e w'=>fV (fv w.heap.size) C (400 - d) w (kH C.E (bV C.E d) lv l) e w'
theorem Syr.row {C:SyC} {w v:World} {l l0:List Tk} {o o0 g:Nat} (h:Syr C w l o) (h0:Syr C v l0 o0) (hg:v.heap.size≤g) (cs:Array Value):Syr C (w.setRow g cs) l o:=
 h.setRow (by have:=h0.lt;omega) (by have:=h0.gl;omega) (by have:=h0.map.lt;omega) cs
theorem DF {d:Nat} (hd:d≤400) (HRow:∀d',d=d'+1→yF d' 1):nN 136 d (fun E=>eV E (bV E d)):=by
 intro C l w hR hE;have aZ:Below w.heap.size w (w.alloc (.cells aB 24)):=ba _;have HR:=ab hR;have nD:=ab (hR.below aZ);have HE:=ab hE;have aD:=ab aZ;have hzl:=hR.lt;show Calls _ _ _ _ fun e w'=>fV (fv w.heap.size) C (400 - d) w (eV C.E (bV C.E d) l) e w'
 obtain⟨RR,bM⟩:∃RR,RR=eV C.E (bV C.E d) l:=⟨_,rfl⟩;rw[←bM]
 cases d with
 | zero=>
  have HQ:Hid (RR=.error (4,(ak C.E 0 l).a)):=ab (bM);have j6:=ab (Bb _ (aa nD) rfl);clear bM hR hE aZ HRow;generalize (ak C.E 0 l).a=a at *;go_enter func136,ntmps136;go_wp2_with fail;refine(aa j6).mono ?_;rintro e w2 ⟨rfl,hb2⟩;have aF:=ab ((But.of_below (aa aD)).trans hb2);clear hb2;unfold aC;go_wp2_with fail;exact⟨rfl,fH (aa HQ) (aa aF) rfl⟩
 | succ d=>
  have HQ:Hid (RR=kH C.E (bV C.E d) 1 l):=ab (bM);have j6:=ab (Ba _ (aa nD) (by omega))
  rw[show 400 - (d+1)+1=400 - d by omega] at j6
  have vF:=ab (fun w h k=>HRow d rfl C l w h k)
  have j3:=ab (fun w l h=>A3 (C:=C) (l:=l) (o:=400 - (d+1)) w h (by omega))
  rw[show 400 - (d+1)+1=400 - d by omega] at j3
  clear bM hR hE aZ HRow hd;generalize 400 - (d+1)=o at *;generalize 400 - d=o1 at *;generalize kH C.E (bV C.E d) 1 l=R1 at *;go_enter func136,ntmps136;go_wp2_with fail;refine(aa j6).mono ?_;rintro e w2 ⟨rfl,hb2,db⟩;have aF:=ab ((But.of_below (aa aD)).trans hb2);have dY:=ab (hb2.row (show w.heap.size≠C.z by omega) (Co (w:=w)))
  have wD:=ab (aa vF w2 db ((aa HE).but (aa aF)));clear hb2 db j6 vF;go_wp2_with fail;refine(aa wD).mono ?_;intro e w3 hp
  cases hq:R1 with
  | error x=>
   obtain⟨er,i⟩:=x;obtain⟨hb3,rfl⟩:=dB hp hq;have aq:=ab ((aa aF).trans hb3);have aS:Hid (RR=.error (er,i)):=ab (by rw[aa HQ,hq])
   clear hp hb3 hq;unfold aC;go_wp2_with fail;exact⟨rfl,fH (aa aS) (aa aq) rfl⟩
  | ok x=>
   obtain⟨p,r⟩:=x;obtain⟨hb3,⟨U,rfl,cE,cS⟩,hR3⟩:=dC hp hq;have kL:w.heap.size < w2.heap.size:=(bC.1 (aa dY)).1;have hwl3:w2.heap.size≤w3.heap.size:=hb3.size;have bz:Below w3.heap.size w3 (w3.alloc (.cells (ai U) 24)):=ba _;have aq:=ab (((aa aF).trans hb3).trans (But.of_below bz));have aS:Hid (RR=.ok (p,r)):=ab (by rw[aa HQ,hq])
   have bj:=ab (am (hb3.row (show w.heap.size≠C.z by omega) (aa dY)) bz)
   have oU:Hid ((w3.alloc (.cells (ai U) 24)).heap[w3.heap.size]? =some (.cells (ai U) 24 (0,0))):=ab (aw rfl);have kB:Hid (U.can=p∧bd (w.heap.size+1) (w3.alloc (.cells (ai U) 24)) U):=ab (⟨cE,(cS.mono (by omega)).below bz⟩)
   have HLV3:=ab (aa j3 _ r (hR3.below bz));clear hp hb3 hq cE cS hR3 bz j3 wD;unfold pv;unfold ai at aq bj oU kB HLV3;go_wp2_with fail;refine(aa HLV3).mono ?_;rintro e w4 ⟨rfl,hb4,hR4⟩;have cy:=hb4.row (show w.heap.size≠C.z by omega) (aa bj)
   have vh:=hb4.row (show w3.heap.size≠C.z by omega) (aa oU)
   obtain⟨v0,v1,v2,v3,v4⟩:=dD vh;have bZ:=ab cy;have HZ:Hid (But C.z w w4∧Syr C w4 r o∧U.can=p∧bd (w.heap.size+1) w4 U):=ab (⟨(aa aq).trans hb4,hR4,(aa kB).1,(aa kB).2.but hb4 (by omega)⟩)
   clear hb4 hR4 cy vh oU bj kB HLV3;go_wp2_with (first
    | (refine aX rfl 24 _ _ rfl w.heap.size (ai U) rfl rfl 24 aB (aa bZ) eT rfl (ik U) ?_)
    | fail)
   (try simp only[Exit.inBlock,Exit.then])
   refine ck (dT rfl _ _ w.heap.size 24 (ai U) (0,0) _ rfl (cm _ _ _ _ _ _ (aa bZ)) underlying24 rfl eT) rfl ?_;exact nI (aa aS) (j7 (aa HZ).1 (ax _) _) ⟨U,rfl,(aa HZ).2.2.1,((aa HZ).2.2.2.setRow (by omega) _).mono (by omega)⟩ ((aa HZ).2.1.row (aa HR) (ax _) _)
end Go.Proofs.YtlmnjbipfacniaaGreatDoor
