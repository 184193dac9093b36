/- What is wrong with a text, and where, is small. The reader o -/
import Derived.Test.YtlmnjbipfacniaaGreatDoorRdNzMs
import Derived.Test.YtlmnjbipfacniaaGreatDoorSyDMs
set_option maxRecDepth 100000
set_option maxHeartbeats 4000000
namespace Go.Proofs.YtlmnjbipfacniaaGreatDoor
open Go.Proofs.Tryz
open Go.RowKit
def Eb {α:Type} (s:ByteArray) (P:Nat→Rd α):Prop:=∀i er a,i≤s.size→P i=.error (er,a)→0≤er∧er≤8∧a≤s.size+1
theorem xd (s:ByteArray) (c:Nat):Eb s (ez s c):=fun i er a hi h=>by
 unfold ez at h;split at h
 ·cases h
 ·injection h with h;injection h with hA hB;(first | omega | (have q9:=eG s i hi;omega))
theorem FW (s:ByteArray):Eb s (ib s):=fun i er a hi h=>by
 unfold ib at h;split at h
 ·split at h
  ·injection h with h;injection h with hA hB;(first | omega | (have q9:=eG s i hi;omega))
  ·cases h
 ·injection h with h;injection h with hA hB;(first | omega | (have q9:=eG s i hi;omega))
theorem nuP_eb (s:ByteArray):Eb s (mC s):=fun i er a hi h=>by
 unfold mC at h;split at h
 ·split at h
  ·injection h with h;injection h with hA hB;(first | omega | (have q9:=eG s i hi;omega))
  ·split at h
   ·injection h with h;injection h with hA hB;(first | omega | (have q9:=eG s i hi;omega))
   ·cases h
 ·injection h with h;injection h with hA hB;(first | omega | (have q9:=eG s i hi;omega))
theorem FD (s:ByteArray):Eb s (fun i=>jK s i):=fun i er a hi h=>by
 have h':jK s i=.error (er,a):=h;unfold jK at h';split at h'
 ·cases h'
 ·injection h' with h';injection h' with hA hB;(first | omega | (have q9:=eG s i hi;omega))
theorem fiP_eb (s:ByteArray):Eb s (mE s):=fun i er a hi h=>by
 unfold mE at h;split at h
 ·rcases dX h with h | ⟨t,j,h1,h⟩
  ·exact FD s _ _ _ (eG s i hi).2 h
  ·split at h
   ·injection h with h;injection h with hA hB;(first | omega | (have q9:=eG s i hi;omega))
   ·cases h
 ·injection h with h;injection h with hA hB;(first | omega | (have q9:=eG s i hi;omega))
theorem EM {d:Nat} {B:Nat→Rd PT} {s:ByteArray} (hB:eA s B) (hN:0 < d→Eb s B):Eb s (jZ d B s):=fun i er a hi h=>by
 unfold jZ at h;rcases dX h with h | ⟨u,j,h1,h⟩
 ·exact xd s 40 i er a hi h
 ·have k1:=nR s 40 (by decide) i u j hi h1
  split at h
  ·injection h with h;injection h with hA hB;(first | omega | (have q9:=eG s i hi;omega))
  ·rcases dX h with h | ⟨p,k,h2,h⟩
   ·exact hN (by omega) j er a k1.2 h
   ·have k2:=hB j p k k1.2 h2
    rcases dX h with h | ⟨u,m,h3,h⟩
    ·exact xd s 41 k er a k2.2 h
    ·cases h
theorem woP_eb {d:Nat} {B:Nat→Rd PT} {s:ByteArray} (hB:eA s B) (hN:0 < d→Eb s B) {i:Nat} {er:Int} {a:Nat} (hl:dj (aj s i)=true) (h:fK d B s i=.error (er,a)):0≤er∧er≤8∧a≤s.size+1:=by
 have h0:=rO hl;unfold fK at h;split at h
 ·injection h with h;injection h with hA hB;(first | omega | (have q9:=eG s i hi;omega))
 ·split at h
  ·rcases dX h with h | ⟨u,j,h1,h⟩
   ·exact EM hB hN _ _ _ h0.2 h
   ·cases h
  ·split at h
   ·rcases dX h with h | ⟨u,j,h1,h⟩
    ·exact xd s 40 _ _ _ h0.2 h
    ·have k1:=nR s 40 (by decide) _ u j h0.2 h1
     rcases dX h with h | ⟨n,k,h2,h⟩
     ·exact nuP_eb s _ _ _ k1.2 h
     ·have k2:=zM s j n k k1.2 h2
      rcases dX h with h | ⟨u,m,h3,h⟩
      ·exact xd s 41 _ _ _ k2.2 h
      ·cases h
   ·split at h
    ·rcases dX h with h | ⟨u,j,h1,h⟩
     ·exact xd s 40 _ _ _ h0.2 h
     ·have k1:=nR s 40 (by decide) _ u j h0.2 h1
      rcases dX h with h | ⟨n,k,h2,h⟩
      ·exact fiP_eb s _ _ _ k1.2 h
      ·have k2:=zR s j n k k1.2 h2
       rcases dX h with h | ⟨u,m,h3,h⟩
       ·exact xd s 41 _ _ _ k2.2 h
       ·cases h
    ·cases h
theorem baP_eb {d:Nat} {B:Nat→Rd PT} {s:ByteArray} (hB:eA s B) (hN:0 < d→Eb s B):Eb s (j3 d B s):=fun i er a hi h=>by
 have h0:=eG s i hi;unfold j3 at h;split at h
 ·rcases dX h with h | ⟨u,j,h1,h⟩
  ·exact FD s _ _ _ h0.2 h
  ·cases h
 ·split at h
  ·exact EM hB hN _ _ _ h0.2 h
  ·have key:∀k,nx s i≠0→(bJ (ib s (sk s i+1)) fun t e=>(.ok (aP k ⟨#[]⟩ 0 t [],e):Rd PT))=.error (er,a)→0≤er∧er≤8∧a≤s.size+1:=fun k hn h=>by
    have h3:=kW hn;rcases dX h with h | ⟨u,j,h1,h⟩
    ·exact FW s _ _ _ (by omega) h
    ·cases h
   split at h
   ·exact key 23 (by omega) h
   ·split at h
    ·exact key 24 (by omega) h
    ·split at h
     ·rename_i hl
      exact woP_eb hB hN hl h
     ·injection h with h;injection h with hA hB;(first | omega | (have q9:=eG s i hi;omega))
theorem F2 (s:ByteArray):∀f p i er a,i≤s.size→s.size < i+f→jd s f p i=.error (er,a)→0≤er∧er≤8∧a≤s.size+1
 | 0,p,i,er,a,hi,hf,h=>by omega
 | f+1,p,i,er,a,hi,hf,h=>by
  have h0:=eG s i hi;rw[jd] at h
  by_cases q:jc (nx s i)=0
  ·rw[af q] at h;cases h
  ·rw[ac q] at h
   have hn:nx s i≠0:=fun z=>q (by rw[z];rfl)
   have h3:=kW hn;rcases dX h with h | ⟨t,e,h1,h⟩
   ·exact FW s _ _ _ (by omega) h
   ·have h4:=v8 s (sk s i+1) t e (by omega) h1
    exact F2 s f _ e er a h4.2 (by omega) h
theorem FK {d:Nat} {B:Nat→Rd PT} {s:ByteArray} (hB:eA s B) (hN:0 < d→Eb s B):Eb s (ia d B s):=fun i er a hi h=>by
 unfold ia at h;rcases dX h with h | ⟨p,j,h1,h⟩
 ·exact baP_eb hB hN _ _ _ hi h
 ·have k1:=zY hB i p j hi h1
  exact F2 s _ _ _ _ _ k1.2 (by omega) h
theorem FO {d:Nat} {B:Nat→Rd PT} {s:ByteArray} (hB:eA s B) (hN:0 < d→Eb s B):∀f l i er a,i≤s.size→s.size < i+f→mA d B s f l i=.error (er,a)→0≤er∧er≤8∧a≤s.size+1
 | 0,l,i,er,a,hi,hf,h=>by omega
 | f+1,l,i,er,a,hi,hf,h=>by
  have h0:=eG s i hi;rw[mA] at h
  by_cases q:kB (nx s i)=true
  ·rw[af q] at h
   rcases dX h with h | ⟨t,e,h1,h⟩
   ·exact FK hB hN _ _ _ h0.2 h
   ·have h3:=vX hB _ t e h0.2 h1
    exact FO hB hN f _ e er a h3.2 (by omega) h
  ·rw[ac q] at h;cases h
theorem FM {d:Nat} {B:Nat→Rd PT} {s:ByteArray} (hB:eA s B) (hN:0 < d→Eb s B):Eb s (iC d B s):=fun i er a hi h=>by
 unfold iC at h;rcases dX h with h | ⟨p,j,h1,h⟩
 ·exact FK hB hN _ _ _ hi h
 ·have k1:=vX hB i p j hi h1
  rcases dX h with h | ⟨l,e,h2,h⟩
  ·exact FO hB hN _ _ _ _ _ k1.2 (by omega) h
  ·cases h
theorem Gr {d:Nat} {B:Nat→Rd PT} {s:ByteArray} (hB:eA s B) (hN:0 < d→Eb s B):∀f l i er a,i≤s.size→s.size < i+f→mF d B s f l i=.error (er,a)→0≤er∧er≤8∧a≤s.size+1
 | 0,l,i,er,a,hi,hf,h=>by omega
 | f+1,l,i,er,a,hi,hf,h=>by
  have h0:=eG s i hi;rw[mF] at h
  by_cases q:nx s i=124
  ·rw[af q] at h
   have hn:=kW (s:=s) (i:=i) (by omega)
   rcases dX h with h | ⟨t,e,h1,h⟩
   ·exact FM hB hN _ _ _ (by omega) h
   ·have h3:=vY hB _ t e (by omega) h1
    exact Gr hB hN f _ e er a h3.2 (by omega) h
  ·rw[ac q] at h;cases h
theorem Gp {d:Nat} {B:Nat→Rd PT} {s:ByteArray} (hB:eA s B) (hN:0 < d→Eb s B):Eb s (m9 d B s):=fun i er a hi h=>by
 unfold m9 at h;rcases dX h with h | ⟨p,j,h1,h⟩
 ·exact FM hB hN _ _ _ hi h
 ·have k1:=vY hB i p j hi h1
  rcases dX h with h | ⟨l,e,h2,h⟩
  ·exact Gr hB hN _ _ _ _ _ k1.2 (by omega) h
  ·cases h
theorem Gt (s:ByteArray):∀d,Eb s (jL s d)
 | 0=>fun i er a hi h=>Gp (d:=0) (B:=fun j=>.error (0,j)) (fun i x j _ h=>by cases h) (fun h=>absurd h (by decide)) i er a hi (by rw[jL] at h;exact h)
 | d+1=>fun i er a hi h=>Gp (yj s d) (fun _=>Gt s d) i er a hi (by rw[jL] at h;exact h)
theorem rdA_eb {s:ByteArray} {er:Int} {a:Nat} (h:n9 s=.error (er,a)):0≤er∧er≤8∧a≤s.size+1:=by
 unfold n9 at h;rcases dX h with h | ⟨p,j,h1,h⟩
 ·exact Gt s _ _ _ _ (cU _) h
 ·split at h
  ·injection h with h;injection h with hA hB;(first | omega | (have q9:=eG s i hi;omega))
  ·cases h
open Go.RowKit
theorem ptS_no {E:Nat} {l:List Tk} (h:(ak E 0 l).k≠4):lV E l=.error (2,(ak E 0 l).a):=ac h
theorem Mo {E:Nat} {l:List Tk} {er:Int} {i:Nat} (h:(ak E 0 l).k=4) (hr:j2 (ak E 0 l).t=.error (er,i)):lV E l=.error (er,(ak E 0 l).a+1+i):=by unfold lV;rw[af h,hr]
theorem ptS_ok {E:Nat} {l:List Tk} {p:PT} {j:Nat} (h:(ak E 0 l).k=4) (hr:j2 (ak E 0 l).t=.ok (p,j)):lV E l=.ok (p,l.tail):=by unfold lV;rw[af h,hr]
theorem rdP_eb {s:ByteArray} {er:Int} {a:Nat} (h:j2 s=.error (er,a)):er≠0∧0≤er∧er≤8∧a≤s.size+1:=by
 unfold j2 at h;split at h
 ·injection h with h;injection h with h1 h2;subst h1 h2;exact⟨by decide,by decide,by decide,cU _⟩
 ·rcases dX h with q | ⟨p,j, -,q⟩
  ·exact⟨BW q,rdA_eb q⟩
  ·split at q
   ·cases q
   ·injection q with q;injection q with h1 h2;subst h1 h2;exact⟨by decide,by decide,by decide,cU _⟩
theorem Syr.setRow {C:SyC} {w:World} {l:List Tk} {o g:Nat} (h:Syr C w l o) (h1:g≠C.z) (h2:g≠C.g) (h3:g≠C.bb) (cs:Array Value):Syr C (w.setRow g cs) l o:=h.same (eZ w g _ cs (fun e=>h1 e.symm)) (eZ w g _ cs (fun e=>h2 e.symm)) (eZ w g _ cs (fun e=>h3 e.symm))
theorem MB {w:World}:(w.alloc (.cells aB 27)).heap[w.heap.size]? =some (.cells aB 27 (0,0)):=ax rfl
theorem CJ {C:SyC} {l:List Tk} {o:Nat} (w:World) (hR:Syr C w l o) (hE:SyEnv C w):Calls prog 102 #[.pointer (some ⟨C.z,0,none⟩)] w fun e w'=>fJ (eW w.heap.size) C o w (lV C.E l) e w':=by
 have bd:Below w.heap.size w (w.alloc (.cells aB 27)):=ba _;have HA:=ab (rH _ (hR.below bd));have HR:=ab hR;have HE:=ab hE;have jf:=xq hR 0;have HS:=ab (fun w h=>rJ (C:=C) (l:=l) (o:=o) w h)
 have HP:=ab (fun (q:(ak C.E 0 l).k=4) w h=>ug (l:=l) (o:=o) (C:=C) w h (yt (E:=C.E) (by rw[q];decide)))
 have kg:=ab (fun w h=>KK (ak C.E 0 l).t w h)
 obtain⟨RR,bD⟩:∃RR,RR=lV C.E l:=⟨_,rfl⟩;rw[←bD];have H1:=ab (fun h=>bD.trans (ptS_no (E:=C.E) (l:=l) h))
 have H2:=ab (fun er i h q=>bD.trans (Mo (E:=C.E) (l:=l) (er:=er) (i:=i) h q))
 have H3:=ab (fun p j h q=>bD.trans (ptS_ok (E:=C.E) (l:=l) (p:=p) (j:=j) h q))
 have aF:=ab bd;have bA:=ab (MB (w:=w));have hzl:=hR.lt;clear hR hE bD bd;generalize ak C.E 0 l=t at *;unfold jt at HA;have ay:=jf.2.1;have hta:=jf.2.2.1;clear jf;have ph:=fun (W:World)=>(aV W.heap.size W).alloc (aw _) (.cells #[.int .i64 (t.k:Int),.string t.t,.int .i64 (t.a:Int)] 102)
 by_cases h4:t.k=4
 ·have q4:((t.k:Int) !=4)=false:=by rw[bne,Bool.not_eq_false',se];omega
  have ig:=ab (aa HP h4);have H2:=ab (fun er i=>aa H2 er i h4)
  have H3:=ab (fun p j=>aa H3 p j h4)
  clear H1 HP h4 HS;go_enter func102,ntmps102;go_wp2_with fail;refine(aa HA).mono ?_;rintro e w2 ⟨rfl,hb2⟩;have hb02:=aq (aa aF) hb2;have aE:=ab (aq hb02 (ph w2));have eE:Hid ((w2.alloc (.cells #[.int .i64 (t.k:Int),.string t.t,.int .i64 (t.a:Int)] 102)).heap[w2.heap.size]? =some (.cells #[.int .i64 (t.k:Int),.string t.t,.int .i64 (t.a:Int)] 102 (0,0))):=ab (ax rfl);have HY2:=ab (an (aa bA) (aq hb2 (ph w2)));have HRD2:=ab (aa kg _ ((aa HE).below (aa aE)).sh);have fm:w.heap.size < w2.heap.size:=(bC.1 (an (aa bA) hb2)).1;clear hb2 hb02 kg HA;go_wp2_with fail;refine(aa HRD2).mono ?_;rintro e w3 ⟨hb3,ou,rg⟩
  cases hq:j2 t.t with
  | error x=>
   obtain⟨er,i⟩:=x;have hee:=rg er i hq;subst hee;have HQ:=ab (aa H2 er i hq);have dl:=an (aa eE) hb3;have ao:=ab (aq (aa aE) hb3);obtain⟨bX,he0,he8,hil⟩:=rdP_eb hq;have d2:w3.cell? ⟨w2.heap.size,2,none⟩=some (.int .i64 (t.a:Int)):=cr dl;have hxl:w2.heap.size < w3.heap.size:=da _ _ d2;have hil2:i≤2001:=by omega
   have qe:(er !=0)=true:=by rw[bne,Bool.not_eq_true',nc];exact bX
   have HT:=ab (fun w=>ue er (t.a+1+i) w)
   rw[show ((t.a+1+i:Nat):Int)=(t.a:Int)+1+(i:Int) by omega] at HT
   have HAL3:Hid (Below w3.heap.size w3 ((w3.alloc (.cells aB 27)).alloc (.cells #[.int .i64 er,.int .i64 (i:Int)] 36))):=ab ((ba _).alloc (by rw[dS];omega) _)
   clear hb3 ou rg hq dl bX hil ig H2 H3 HRD2;unfold cY aB;unfold aB at HAL3;go_wp2_with fail;refine(aa HT _).mono ?_;rintro e w4 ⟨rfl,rfl⟩;unfold aC;go_wp2_with fail;exact⟨rfl,fu (aa HQ) (But.of_below (aq (aa ao) (aa HAL3))) rfl⟩
  | ok x=>
   obtain⟨p,j⟩:=x;obtain⟨U,hee,cA,cL⟩:=ou p j hq;subst hee;have HQ:=ab (aa H3 p j hq);have hy3:=an (aa HY2) hb3;have Ax:Below w3.heap.size w3 ((w3.alloc (.cells (ai U) 27)).alloc (.cells #[.int .i64 0,.int .i64 0] 36)):=(ba _).alloc (by rw[dS];omega) _
   have ao:=ab (aq (aq (aa aE) hb3) Ax);have HY3:=ab (an hy3 Ax);have po:Hid (((w3.alloc (.cells (ai U) 27)).alloc (.cells #[.int .i64 0,.int .i64 0] 36)).heap[w3.heap.size]? =some (.cells (ai U) 27 (0,0))):=ab (ci (by rw[dS];omega) (ax rfl))
   have kl:Hid (U.can=p∧bf (w.heap.size+1) ((w3.alloc (.cells (ai U) 27)).alloc (.cells #[.int .i64 0,.int .i64 0] 36)) U):=ab (⟨cA,((cL.mono (by rw[dS];omega)).below Ax)⟩)
   have hwl3:w.heap.size < w3.heap.size:=(bC.1 hy3).1;clear hb3 ou rg hq cA cL hy3 Ax H2 H3 HRD2;unfold cY pv;unfold ai at ao HY3 po kl;go_wp2_with fail;refine(aa ig _ ((aa HR).below (aa ao))).mono ?_;rintro e w6 ⟨rfl,hb6,hR6⟩;have hy6:=hb6.row (show w.heap.size≠C.z by omega) (aa HY3)
   have dZ:=hb6.row (show w3.heap.size≠C.z by omega) (aa po)
   obtain⟨v0,v1,v2,v3,v4⟩:=ee dZ;have HY6:=ab hy6;have HZ:Hid (But C.z w w6∧Syr C w6 l.tail o∧U.can=p∧bf (w.heap.size+1) w6 U):=ab (⟨(But.of_below (aa ao)).trans hb6,hR6,(aa kl).1,(aa kl).2.but hb6 (by omega)⟩)
   clear hb6 hR6 hy6 dZ po HY3 kl;go_wp2_with (first
    | (refine bh rfl 27 _ _ rfl w.heap.size (ai U) rfl rfl 27 aB (aa HY6) dE rfl (gZ U) ?_)
    | fail)
   (try simp only[Exit.inBlock,Exit.then])
   refine bK (dM rfl _ _ w.heap.size 27 (ai U) (0,0) _ rfl (bW _ _ _ _ _ _ (aa HY6)) underlying27 rfl dE) rfl ?_;exact nS (aa HQ) (jU (aa HZ).1 (aw _) _) ⟨U,rfl,(aa HZ).2.2.1,((aa HZ).2.2.2.setRow (by omega) _).mono (by omega)⟩ ((aa HZ).2.1.setRow (by omega) (by have:=(aa HR).gl;omega) (by have:=(aa HR).map.lt;omega) _)
 ·have q4:((t.k:Int) !=4)=true:=by rw[bne,Bool.not_eq_true',nc];omega
  have HQ:=ab (aa H1 h4);clear H1 H2 H3 HP kg h4;go_enter func102,ntmps102;go_wp2_with fail;refine(aa HA).mono ?_;rintro e w2 ⟨rfl,hb2⟩;have aE:=ab (aq (aq (aa aF) hb2) (ph w2));clear hb2;go_wp2_with fail;refine(aa HS _ ((aa HR).below (aa aE))).mono ?_;rintro e w3 ⟨rfl,hb3⟩;have ao:=ab (aq (aa aE) hb3);clear hb3;unfold aC;go_wp2_with fail;exact⟨rfl,fu (aa HQ) (But.of_below (aa ao)) rfl⟩
open Go.RowKit
theorem du {w:World} {z:Nat} {ty:TypeId} {v0 v1 v2 v3 v4:Value} (h:w.heap[z]? =some (.cells #[v0,v1,v2,v3,v4] ty (0,0))):
  w.cell? ⟨z,0,none⟩=some v0∧w.cell? ⟨z,1,none⟩=some v1∧w.cell? ⟨z,2,none⟩=some v2∧w.cell? ⟨z,3,none⟩=some v3∧w.cell? ⟨z,4,none⟩=some v4:=by
 refine⟨?_, ?_, ?_, ?_, ?_⟩ <;> (rw[eB _ _ _ _ _ _ h];rfl)
theorem eM:(prog.info? 24).map (·.size)=some 5:=by kernel_rfl
theorem B8 {w:World}:(w.alloc (.cells aB 24)).heap[w.heap.size]? =some (.cells aB 24 (0,0)):=ax rfl
def nX (f:FuncId) (d:Nat) (P:Nat→List Tk→Sy PT):Prop:=∀(C:SyC) (l:List Tk) (w:World),Syr C w l (400 - d)→SyEnv C w→
 Calls prog f #[.pointer (some ⟨C.z,0,none⟩)] w fun e w'=>fJ (eW w.heap.size) C (400 - d) w (P C.E l) e w'
def yB (d lv:Nat):Prop:=∀(C:SyC) (l:List Tk) (w:World),Syr C w l (400 - d)→SyEnv C w→
 Calls prog 151 #[.pointer (some ⟨C.z,0,none⟩),.int .i64 (lv:Int)] w fun e w'=>fJ (eW w.heap.size) C (400 - d) w (lF C.E (bV C.E d) lv l) e w'
theorem Syr.row {C:SyC} {w v:World} {l l0:List Tk} {o o0 g:Nat} (h:Syr C w l o) (h0:Syr C v l0 o0) (hg:v.heap.size≤g) (cs:Array Value):Syr C (w.setRow g cs) l o:=
 h.setRow (by have:=h0.lt;omega) (by have:=h0.gl;omega) (by have:=h0.map.lt;omega) cs
theorem Dm {d:Nat} (hd:d≤400) (HRow:∀d',d=d'+1→yB d' 1):nX 136 d (fun E=>eX E (bV E d)):=by
 intro C l w hR hE;have bd:Below w.heap.size w (w.alloc (.cells aB 24)):=ba _;have HR:=ab hR;have nL:=ab (hR.below bd);have HE:=ab hE;have aF:=ab bd;have hzl:=hR.lt;show Calls _ _ _ _ fun e w'=>fJ (eW w.heap.size) C (400 - d) w (eX C.E (bV C.E d) l) e w'
 obtain⟨RR,bD⟩:∃RR,RR=eX C.E (bV C.E d) l:=⟨_,rfl⟩;rw[←bD]
 cases d with
 | zero=>
  have HQ:Hid (RR=.error (4,(ak C.E 0 l).a)):=ab (bD);have jT:=ab (A1 _ (aa nL) rfl);clear bD hR hE bd HRow;generalize (ak C.E 0 l).a=a at *;go_enter func136,ntmps136;go_wp2_with fail;refine(aa jT).mono ?_;rintro e w2 ⟨rfl,hb2⟩;have aE:=ab ((But.of_below (aa aF)).trans hb2);clear hb2;unfold aC;go_wp2_with fail;exact⟨rfl,fu (aa HQ) (aa aE) rfl⟩
 | succ d=>
  have HQ:Hid (RR=lF C.E (bV C.E d) 1 l):=ab (bD);have jT:=ab (A0 _ (aa nL) (by omega))
  rw[show 400 - (d+1)+1=400 - d by omega] at jT
  have vC:=ab (fun w h k=>HRow d rfl C l w h k)
  have mR:=ab (fun w l h=>AS (C:=C) (l:=l) (o:=400 - (d+1)) w h (by omega))
  rw[show 400 - (d+1)+1=400 - d by omega] at mR
  clear bD hR hE bd HRow hd;generalize 400 - (d+1)=o at *;generalize 400 - d=o1 at *;generalize lF C.E (bV C.E d) 1 l=R1 at *;go_enter func136,ntmps136;go_wp2_with fail;refine(aa jT).mono ?_;rintro e w2 ⟨rfl,hb2,cX⟩;have aE:=ab ((But.of_below (aa aF)).trans hb2);have eE:=ab (hb2.row (show w.heap.size≠C.z by omega) (B8 (w:=w)))
  have wF:=ab (aa vC w2 cX ((aa HE).but (aa aE)));clear hb2 cX jT vC;go_wp2_with fail;refine(aa wF).mono ?_;intro e w3 hp
  cases hq:R1 with
  | error x=>
   obtain⟨er,i⟩:=x;obtain⟨hb3,rfl⟩:=dr hp hq;have ao:=ab ((aa aE).trans hb3);have aU:Hid (RR=.error (er,i)):=ab (by rw[aa HQ,hq])
   clear hp hb3 hq;unfold aC;go_wp2_with fail;exact⟨rfl,fu (aa aU) (aa ao) rfl⟩
  | ok x=>
   obtain⟨p,r⟩:=x;obtain⟨hb3,⟨U,rfl,cA,cL⟩,hR3⟩:=dt hp hq;have mM:w.heap.size < w2.heap.size:=(bC.1 (aa eE)).1;have hwl3:w2.heap.size≤w3.heap.size:=hb3.size;have bp:Below w3.heap.size w3 (w3.alloc (.cells (ai U) 24)):=ba _;have ao:=ab (((aa aE).trans hb3).trans (But.of_below bp));have aU:Hid (RR=.ok (p,r)):=ab (by rw[aa HQ,hq])
   have bo:=ab (an (hb3.row (show w.heap.size≠C.z by omega) (aa eE)) bp)
   have po:Hid ((w3.alloc (.cells (ai U) 24)).heap[w3.heap.size]? =some (.cells (ai U) 24 (0,0))):=ab (ax rfl);have kl:Hid (U.can=p∧bf (w.heap.size+1) (w3.alloc (.cells (ai U) 24)) U):=ab (⟨cA,(cL.mono (by omega)).below bp⟩)
   have HLV3:=ab (aa mR _ r (hR3.below bp));clear hp hb3 hq cA cL hR3 bp mR wF;unfold pv;unfold ai at ao bo po kl HLV3;go_wp2_with fail;refine(aa HLV3).mono ?_;rintro e w4 ⟨rfl,hb4,hR4⟩;have cv:=hb4.row (show w.heap.size≠C.z by omega) (aa bo)
   have vb:=hb4.row (show w3.heap.size≠C.z by omega) (aa po)
   obtain⟨v0,v1,v2,v3,v4⟩:=du vb;have bY:=ab cv;have HZ:Hid (But C.z w w4∧Syr C w4 r o∧U.can=p∧bf (w.heap.size+1) w4 U):=ab (⟨(aa ao).trans hb4,hR4,(aa kl).1,(aa kl).2.but hb4 (by omega)⟩)
   clear hb4 hR4 cv vb po bo kl HLV3;go_wp2_with (first
    | (refine bh rfl 24 _ _ rfl w.heap.size (ai U) rfl rfl 24 aB (aa bY) eM rfl (gZ U) ?_)
    | fail)
   (try simp only[Exit.inBlock,Exit.then])
   refine bK (dM rfl _ _ w.heap.size 24 (ai U) (0,0) _ rfl (bW _ _ _ _ _ _ (aa bY)) underlying24 rfl eM) rfl ?_;exact nS (aa aU) (jU (aa HZ).1 (aw _) _) ⟨U,rfl,(aa HZ).2.2.1,((aa HZ).2.2.2.setRow (by omega) _).mono (by omega)⟩ ((aa HZ).2.1.row (aa HR) (aw _) _)
end Go.Proofs.YtlmnjbipfacniaaGreatDoor
