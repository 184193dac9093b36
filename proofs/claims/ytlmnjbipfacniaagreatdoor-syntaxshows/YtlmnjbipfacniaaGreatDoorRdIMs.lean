/- The reader of patterns: what stands in brackets. The reader -/
import Derived.Test.YtlmnjbipfacniaaGreatDoorRdRowMs
set_option maxRecDepth 100000
set_option maxHeartbeats 4000000
namespace Go.Proofs.YtlmnjbipfacniaaGreatDoor
open Go.Proofs.Tryz
open Go.RowKit
theorem dA.but {w w':World} {z:Nat} (h:dA w) (hb:But z w w') (hz:z≠1):dA w':=fun K h1 h2=>by
 obtain⟨a,b,c,d⟩:=h K h1 h2;have hg:w'.heap[1]? =w.heap[1]? :=hb.block _ (by
  unfold World.cell? at a;rcases cG 1 w.heap.size with q | q
  ·exact q
  ·rw[Array.getElem?_eq_none q] at a;cases a) (fun e=>hz e.symm)
 have key:∀o,w'.cell? ⟨1,o,none⟩=w.cell? ⟨1,o,none⟩:=fun o=>by
  unfold World.cell?;rw[hg]
 exact⟨(key _).trans a,(key _).trans b,(key _).trans c,(key _).trans d⟩
def oR (f:FuncId) (d:Nat) (P:ByteArray→Nat→Rd PT):Prop:=∀(s:ByteArray) (i z:Nat) (w:World),s.size≤65536→i≤s.size→bQ w z s i ((200 - d:Nat):Int)→dA w→z≠1→
 Calls prog f #[.pointer (some ⟨z,0,none⟩)] w fun e w'=>fR (eW w.heap.size) z s ((200 - d:Nat):Int) w (P s i) e w'
theorem bQ.set2q {w:World} {z:Nat} {s:ByteArray} {i:Nat} {o:Int} (h:bQ w z s i o) {p q:Int} (hq:p=q):bQ (w.setCell ⟨z,2,none⟩ (.int .i64 p)) z s i q:=by subst hq;exact h.set2 p
theorem oQ {w:World}:(w.alloc (.cells aB 27)).heap[w.heap.size]? =some (.cells aB 27 (0,0)):=ax rfl
theorem dK {w w':World} {z k:Nat} {x:Obj} (h:But z w w') (hk:w.heap[k]? =some x) (hz:k≠z):w'.heap[k]? =some x:=h.row hz hk
theorem jU {w W:World} {z g:Nat} (h:But z w W) (hg:w.heap.size≤g) (cs:Array Value):But z w (W.setRow g cs):=
 ⟨h.os,h.tape,h.output,by simpa using h.size,fun k hk hz=>(eZ W g k cs (by omega)).trans (h.block k hk hz)⟩
theorem bQ.setRow {w:World} {z g:Nat} {s:ByteArray} {i:Nat} {o:Int} (h:bQ w z s i o) (hg:g≠z) (cs:Array Value):bQ (w.setRow g cs) z s i o:=(eZ w g z cs (fun e=>hg e.symm)).trans h
theorem Bv {s:ByteArray} {c i:Nat} (h:nx s i=c):ez s c i=.ok ((),sk s i+1):=af h
theorem Bw {s:ByteArray} {c i:Nat} (h:nx s i≠c):ez s c i=.error (2,sk s i):=ac h
theorem CG {d:Nat} (hd:d≤200) {B:ByteArray→Nat→Rd PT} (hB:∀s,eA s (B s)) (HA:0 < d→oR 166 (d - 1) B):oR 194 d (fun s=>jZ d (B s) s):=by
 intro s i z w hs hi hR hS hzG;have hzl:=hR.lt;have bd:But z w (w.alloc (.cells aB 27)):=(But.refl z w).alloc _;have eO:=hR.below ((aV _ _).alloc (aw _) (.cells aB 27));have hbox:(w.alloc (.cells aB 27)).heap[w.heap.size]? =some (.cells aB 27 (0,0)):=oQ;have bi:w.heap.size≠z:=by omega
 have ap:=ab (hS.but bd hzG);have aF:=ab bd;have eb:=ab hbox;show Calls _ _ _ _ fun e w'=>fR (eW w.heap.size) z s ((200 - d:Nat):Int) w (jZ d (B s) s i) e w'
 unfold jZ
 by_cases h1:nx s i=40
 ·rw[Bv h1,dw]
  have HT:=ab (Bu 40 _ hs hi eO h1 (by decide))
  have au:=kW (s:=s) (i:=i) (by omega)
  generalize sk s i=j at *;clear h1 hR eO hS bd hbox
  by_cases jB:d=0
  ·subst jB
   rw[af rfl];have HTH:=ab (fun w=>wN 4 (j+1) w)
   go_enter func194,ntmps194;go_wp2_with fail;refine(aa HT).mono ?_;rintro e w1 ⟨rfl,hb1,hR1⟩;have c1:=hR1.c1;have c2:=hR1.c2;have aX:=ab ((aa aF).trans hb1);clear hb1 hR1;go_wp2_with (refine(aa HTH _).mono ?_;rintro e w ⟨rfl,rfl⟩;unfold aC);exact⟨rfl,fF rfl (aa aX) rfl⟩
  ·rw[ac jB]
   have HAd:=ab (HA (by omega) s (j+1) z)
   have hdd:((200 - d:Nat):Int)≠200:=by omega
   have vf:((200 - d:Nat):Int)+1=((200 - (d - 1):Nat):Int):=by omega
   have hne2:(((200 - d:Nat):Int)==200)=false:=bn hdd;have ho1:(0:Int)≤((200 - d:Nat):Int)∧((200 - d:Nat):Int)≤200:=by omega
   have HADV:=ab (hB s (j+1));have HOP:=ab vf;clear hdd HA vf;generalize ((200 - (d - 1):Nat):Int)=o1 at *;generalize ((200 - d:Nat):Int)=o at *;obtain⟨R,eO⟩:∃R,B s (j+1)=R:=⟨_,rfl⟩;rw[eO] at HAd HADV ⊢;clear eO;rcases R with ⟨er,at'⟩ | ⟨p,k⟩
   ·rw[jr]
    go_enter func194,ntmps194;go_wp2_with fail;refine(aa HT).mono ?_;rintro e w1 ⟨rfl,hb1,hR1⟩;have c1:=hR1.c1;have c2:=hR1.c2;have fz:=hR1.fz 2;have aX:=ab ((aa aF).trans hb1);have H1:=ab hR1;have bL:=ab ((aa ap).but hb1 hzG);clear hb1 hR1;go_wp2_with (refine(aa HAd _ hs (by omega) ((aa H1).set2q (aa HOP)) ((aa bL).but ((But.refl z w1).setCell 2 _) hzG) hzG).mono ?_;intro e w3 hP;obtain⟨hb3,rfl⟩:=jW hP rfl;clear hP;have ao:=ab ((aa aX).trans (((But.refl z w1).setCell 2 _).trans hb3));clear hb3;unfold aC)
    exact⟨rfl,fF rfl (aa ao) rfl⟩
   ·rw[dw]
    have nv:=aa HADV p k (by omega) rfl
    go_enter func194,ntmps194;go_wp2_with fail;refine(aa HT).mono ?_;rintro e w1 ⟨rfl,hb1,hR1⟩;have c1:=hR1.c1;have c2:=hR1.c2;have fz:=hR1.fz 2;have aX:=ab ((aa aF).trans hb1);have H1:=ab hR1;have bL:=ab ((aa ap).but hb1 hzG);have d6:=ab ((aa eb |> fun h=>dK hb1 h bi))
    clear hb1 hR1;go_wp2_with fail;refine(aa HAd _ hs (by omega) ((aa H1).set2q (aa HOP)) ((aa bL).but ((But.refl z w1).setCell 2 _) hzG) hzG).mono ?_
    intro e w3 hP;obtain⟨hb3,⟨U,rfl,hU,hL⟩,hR3⟩:=js hP rfl;unfold pv;have gP:w.heap.size+1≤w1.heap.size:=by
     have h:=(aa d6);exact(bC.1 h).1
    rw[show (w1.setCell ⟨z,2,none⟩ (.int .i64 (o+1))).heap.size=w1.heap.size by simp] at hL
    have vd:w1.heap.size≤w3.heap.size:=by have:=hb3.size;simpa using this
    have ao:=ab ((aa aX).trans (((But.refl z w1).setCell 2 _).trans hb3));have bo:=ab (dK (((But.refl z w1).setCell 2 (.int .i64 (o+1))).trans hb3) (aa d6) bi);have kl:=ab hL;have HU:=ab hU;have hb4:Below w3.heap.size w3 (w3.alloc (.cells #[.int .i64 U.k,.string U.t,.int .i64 U.n,.string U.nm,.slice U.xa U.len U.cap] 27)):=ba _;have hn3:¬w3.heap.size=z:=by omega
    have hn4:¬z=w3.heap.size:=by omega
    by_cases h2:nx s k=41
    ·have dT:Hid ((bJ (ez s 41 k) fun _ m=>(.ok (p,m):Rd PT))=.ok (p,sk s k+1)):=ab (by rw[Bv h2,dw])
     have ke:=ab (Bu 41 _ hs nv.2 (hR3.below hb4) h2 (by decide))
     have uU:=kW (s:=s) (i:=k) (by omega)
     have HG4:Hid ((w3.alloc (.cells #[.int .i64 U.k,.string U.t,.int .i64 U.n,.string U.nm,.slice U.xa U.len U.cap] 27)).heap[w3.heap.size]? =some (.cells #[.int .i64 U.k,.string U.t,.int .i64 U.n,.string U.nm,.slice U.xa U.len U.cap] 27 (0,0))):=ab (ax rfl);have dD:=ab ((aa ao).trans (But.of_below hb4));have jF:=ab ((aa kl).below hb4);have bY:=ab (an (aa bo) hb4);clear hb3 hR3 hU hL hP hb4 c1 c2 fz bo kl h2;generalize sk s k=m at *;go_wp2_with fail;refine(aa ke).mono ?_;rintro e w5 ⟨rfl,hb5,hR5⟩;have HG5:=ab (dK hb5 (aa HG4) (by omega))
     have dC:=ab (dK hb5 (aa bY) bi);have dJ:=ab ((aa dD).trans hb5);have sM:=ab ((aa jF).but hb5 (by omega))
     have c2:=hR5.c2;have fz:=hR5.fz 2;have H5:=ab hR5;obtain⟨g0,g1,g2,g3,g4⟩:=ee (aa HG5);have hom:o1 - 1=o:=by have:=aa HOP;omega
     have HOM:=ab hom;have ho2:(1:Int)≤o1∧o1≤201:=by have:=aa HOP;omega
     have gF:Hid ((w5.setCell ⟨z,2,none⟩ (.int .i64 (o1 - 1))).heap[w.heap.size]? =some (.cells aB 27 (0,0))):=ab ((dh w5 ⟨z,2,none⟩ w.heap.size _ bi).trans (aa dC));clear hb5 hR5 hom;go_wp2_with (first
      | (refine bh rfl 27 _ _ rfl w.heap.size (ai U) rfl rfl 27 aB (aa gF) dE rfl (gZ U) ?_)
      | fail)
     (try simp only[Exit.inBlock,Exit.then])
     refine bK (dM rfl _ _ w.heap.size 27 (ai U) (0,0) _ rfl (bW _ _ _ _ _ _ (aa gF)) underlying27 rfl dE) rfl ?_;exact lA (aa dT) (jU ((aa dJ).setCell 2 _) (aw _) _) ⟨U,rfl,aa HU,((((aa sM).but ((But.refl z w5).setCell 2 _) (by omega)).setRow (by omega) _).mono (by omega))⟩ (((aa H5).set2q (aa HOM)).setRow bi _)
    ·have dT:Hid ((bJ (ez s 41 k) fun _ m=>(.ok (p,m):Rd PT))=.error (2,sk s k)):=ab (by rw[Bw h2,jr])
     have ke:=ab (A8 41 _ hs nv.2 (hR3.below hb4) h2);have dD:=ab ((aa ao).trans (But.of_below hb4));clear hb3 hR3 hU hL hP hb4 c1 c2 fz bo kl h2;generalize sk s k=m at *;go_wp2_with (refine(aa ke).mono ?_;rintro e w5 ⟨rfl,hb5⟩;have dJ:=ab ((aa dD).trans hb5);clear hb5;unfold aC);exact⟨rfl,fF (aa dT) (aa dJ) rfl⟩
 ·rw[Bw h1,jr]
  have HT:=ab (A8 40 _ hs hi eO h1);clear h1 hR eO hS bd hbox HA;go_enter func194,ntmps194;go_wp2_with (refine(aa HT).mono ?_;rintro e w5 ⟨rfl,hb5⟩;have dJ:=ab ((aa aF).trans hb5);clear hb5;unfold aC);exact⟨rfl,fF rfl (aa dJ) rfl⟩
open Go.RowKit
def yu (_:Unit) (e:Ending) (_:World):Prop:=e=.returned (.tuple #[])
theorem zv {s:ByteArray} {i z:Nat} {o:Int} (c:Nat) (h0:c≠0) (w:World) (hs:s.size≤65536) (hi:i≤s.size) (hR:bQ w z s i o):Calls prog 200 #[.pointer (some ⟨z,0,none⟩),.int .u8 (c:Int)] w fun e w'=>fR yu z s o w (ez s c i) e w':=by
 by_cases h:nx s i=c
 ·refine(Bu c w hs hi hR h h0).mono ?_
  rintro e w' ⟨rfl,hb,hr⟩;exact lA (Bv h) hb rfl hr
 ·refine(A8 c w hs hi hR h).mono ?_
  rintro e w' ⟨rfl,hb⟩;exact fF (Bw h) hb rfl
def gK (k:Nat) (t:ByteArray) (n:Int):Array Value:= #[.int .i64 (k:Int),.string t,.int .i64 n,.string ⟨#[]⟩,.slice none 0 0]
theorem ext_le (s:ByteArray) (i j:Nat):(s.extract i j).size≤s.size:=by rw[ByteArray.size_extract];omega
theorem xT (t:ByteArray):kz t≤24:=EY t 24
theorem zC (k:Nat) (t:ByteArray) (n:Int):(gK k t n).all (·.oneCell')=true:=by simp[gK,Value.oneCell']
theorem zk {w W:World} {z g:Nat} (h:But z w W) (hg:w.heap.size≤g) (k:Nat) (v:Value):But z w (W.setCell ⟨g,k,none⟩ v):=
 ⟨h.os,h.tape,h.output,by simpa using h.size,fun i hi hz=>(dh W ⟨g,k,none⟩ i v (by show i≠g;omega)).trans (h.block i hi hz)⟩
theorem nuP_le {s:ByteArray} {i n j:Nat} (h:mC s i=.ok (n,j)):n≤65536:=by
 unfold mC at h;split at h
 ·split at h
  ·cases h
  ·split at h
   ·cases h
   ·injection h with h;injection h with h _;omega
 ·cases h
theorem ct_len (s:ByteArray) (i:Nat):(ct s i).length≤s.size - i:=
 xo (P:=fun i=>(ct s i).length≤s.size - i) (fun i hi=>by rw[Gc hi];simp) (fun i hi hb ih=>by rw[xV hi hb,List.length_cons];omega)
  (fun i hb hc ih=>by rw[yq hb hc,List.length_cons];have:=mv (s:=s) (i:=i+1) (by omega);omega) (fun i hb hc=>by rw[yd hb hc];simp) s.size i (by omega)
theorem FC {s:ByteArray} {i j:Nat} {t:ByteArray} (hs:s.size≤65536) (h:jK s i=.ok (t,j)):t.size≤65536:=by
 unfold jK at h;split at h
 ·injection h with h;injection h with h _
  subst h;have:=ct_len s (i+1);show (ct s (i+1)).toArray.size≤65536;simp;omega
 ·cases h
theorem MY {s:ByteArray} {i j:Nat} {t:ByteArray} (hs:s.size≤65536) (h:mE s i=.ok (t,j)):t.size≤65536:=by
 unfold mE at h;split at h
 ·obtain⟨u,e,h1,h2⟩:=jH h
  split at h2
  ·cases h2
  ·injection h2 with h2;injection h2 with h2 _
   subst h2;exact FC hs h1
 ·cases h
theorem Ii {d:Nat} {B:ByteArray→Nat→Rd PT} {s:ByteArray} {i z:Nat} {o:Int} {w:World} (hs:s.size≤65536) (hl:dj (aj s i)=true) (hR:bQ w z s i o) (hS:dA w) (hzG:z≠1)
  {K:Nat} (hK:kz (s.extract i (cn s i))=K) (h0:K≠0) (jD:K≠20) (hh:aO K=2):
  Calls prog 195 #[.pointer (some ⟨z,0,none⟩)] w fun e w'=>fR (eW w.heap.size) z s o w (fK d (B s) s i) e w':=by
 have hE:=rO hl;have hzl:=hR.lt;have bd:But z w (w.alloc (.cells aB 27)):=(But.refl z w).alloc _;have eO:=hR.below ((aV _ _).alloc (aw _) (.cells aB 27));have bi:w.heap.size≠z:=by omega
 have wE:K≤24:=hK▸xT _;have ap:=ab (hS.but bd hzG);have aF:=ab bd;have eb:Hid ((w.alloc (.cells aB 27)).heap[w.heap.size]? =some (.cells aB 27 (0,0))):=ab (oQ);have HW:=ab (wM _ hs (by omega) eO)
 have oF:=ab (fun w h=>xM (s.extract i (cn s i)) w h)
 rw[hK] at oF;have pu:=ab (fun w h=>zv (z:=z) (o:=o) 40 (by decide) w hs hE.2 h)
 have HT1A:=ab (fun x a=>nR s 40 (by decide) (cn s i) x a hE.2)
 have dT:Hid (fK d (B s) s i=bJ (ez s 40 (cn s i)) fun _ a=>bJ (mC s a) fun n b=>bJ (ez s 41 b) fun _ c=>.ok (aP K ⟨#[]⟩ n ⟨#[]⟩ [],c)):=ab (by
  unfold fK;rw[hK,ac h0,ac jD,af hh])
 generalize fK d (B s) s i=RR at *;have c1:=eO.c1;unfold aB at c1;have e0:((K:Int)==0)=false:=bn;have e20:((K:Int)==20)=false:=bn;have hKb:(0:Int)≤(K:Int)∧(K:Int) < 25:=by omega
 have HH:=ab hh;have tQ:1≤K:=by omega
 clear hR eO hS bd hl hK hh h0 jD;generalize s.extract i (cn s i)=word at *;generalize cn s i=E at *;go_enter func195,ntmps195;go_wp2_with fail;refine(aa HW).mono ?_;rintro e w1 ⟨rfl,hb1,hR1⟩;have bL:=ab ((aa ap).but hb1 hzG);have d6:=ab (dK hb1 (aa eb) bi);have aX:=ab ((aa aF).trans hb1);have H1:=ab hR1;have gP:w.heap.size+1≤w1.heap.size:=(bC.1 (aa d6)).1;clear hb1 hR1 c1;go_wp2_with fail;refine(aa oF _ (aa bL)).mono ?_;rintro e w1 ⟨rfl,rfl⟩;have hb2:Below w1.heap.size w1 (w1.alloc (.cells (gK K ⟨#[]⟩ 0) 27)):=ba _;have gQ:=ab ((aa bL).later hb2);obtain⟨-,s1, -, -⟩:=aa gQ K tQ wE;rw[aa HH] at s1;have eE:=ab (an (aa d6) hb2);have aE:=ab ((aa aX).trans (But.of_below hb2));have H2:=ab ((aa H1).below hb2);have dz:Hid ((w1.alloc (.cells (gK K ⟨#[]⟩ 0) 27)).heap[w1.heap.size]? =some (.cells (gK K ⟨#[]⟩ 0) 27 (0,0))):=ab (ax rfl);unfold gK at s1;clear hb2;go_wp2_with fail;refine(aa pu _ (aa H2)).mono ?_;intro e w3 ox;have mO:w1.heap.size≠z:=by omega
 rcases hr3:ez s 40 E with ⟨er,a1⟩ | ⟨⟨⟩,a1⟩
 ·obtain⟨hb3,rfl⟩:=jW ox hr3
  have ao:=ab ((aa aE).trans hb3);have go:Hid (RR=.error (er,a1)):=ab (by rw[aa dT,hr3,jr])
  clear ox hb3 hr3 s1;unfold aC;go_wp2_with fail;exact⟨rfl,fF (aa go) (aa ao) rfl⟩
 ·obtain⟨hb3,hv3,hR3⟩:=js ox hr3
  unfold yu at hv3;subst hv3;have nv:=aa HT1A _ a1 hr3;have gq:=ab (dK hb3 (aa dz) mO);have bo:=ab (dK hb3 (aa eE) bi);have ao:=ab ((aa aE).trans hb3);have H3:=ab hR3;have HNU:=ab (fun w h=>IC (z:=z) (o:=o) w hs nv.2 h)
  have ml:=ab (fun n b=>zM s a1 n b nv.2)
  have wG:Hid (RR=bJ (mC s a1) fun n b=>bJ (ez s 41 b) fun _ c=>.ok (aP K ⟨#[]⟩ n ⟨#[]⟩ [],c)):=ab (by rw[aa dT,hr3,dw])
  clear ox hb3 hr3 s1 hR3 dT;go_wp2_with fail;refine(aa HNU _ (aa H3)).mono ?_;intro e w4 tO;rcases hr4:mC s a1 with ⟨er,a2⟩ | ⟨n,a2⟩
  ·obtain⟨hb4,rfl⟩:=jW tO hr4
   have dD:=ab ((aa ao).trans hb4);have go:Hid (RR=.error (er,a2)):=ab (by rw[aa wG,hr4,jr])
   clear tO hb4 hr4;unfold aC;go_wp2_with fail;exact⟨rfl,fF (aa go) (aa dD) rfl⟩
  ·obtain⟨hb4,vb,hR4⟩:=js tO hr4
   unfold numV at vb;subst vb;have yL:=aa ml n a2 hr4;have iJ:=ab (nuP_le hr4);have ig:=ab (dK hb4 (aa gq) mO);have bY:=ab (dK hb4 (aa bo) bi);have dD:=ab ((aa ao).trans hb4);have H4:=ab hR4;obtain⟨p0,p1,p2,p3,p4⟩:=ee (aa ig);have pf:=cN w4 w1.heap.size 2 _ _ (aa ig);have kQ:Hid ((w4.setCell ⟨w1.heap.size,2,none⟩ (.int .i64 (n:Int))).heap[w1.heap.size]? =some (.cells (gK K ⟨#[]⟩ (n:Int)) 27 (0,0))):=ab (fB w4 w1.heap.size 2 _ _ _ (aa ig));have dC:Hid ((w4.setCell ⟨w1.heap.size,2,none⟩ (.int .i64 (n:Int))).heap[w.heap.size]? =some (.cells aB 27 (0,0))):=ab ((dh w4 ⟨w1.heap.size,2,none⟩ w.heap.size _ (by show w.heap.size≠w1.heap.size;omega)).trans (aa bY))
   have H5:Hid (bQ (w4.setCell ⟨w1.heap.size,2,none⟩ (.int .i64 (n:Int))) z s a2 o):=ab ((dh w4 ⟨w1.heap.size,2,none⟩ z _ (by show z≠w1.heap.size;omega)).trans (aa H4))
   have dJ:Hid (But z w (w4.setCell ⟨w1.heap.size,2,none⟩ (.int .i64 (n:Int)))):=ab (zk (aa dD) (by omega) _ _)
   have ke:=ab (fun w h=>zv (z:=z) (o:=o) 41 (by decide) w hs yL.2 h)
   have yX:Hid (RR=bJ (ez s 41 a2) fun _ c=>.ok (aP K ⟨#[]⟩ n ⟨#[]⟩ [],c)):=ab (by rw[aa wG,hr4,dw])
   clear tO hb4 hr4 hR4 wG;go_wp2_with fail;refine(aa ke _ (aa H5)).mono ?_;intro e w6 tN;rcases hr6:ez s 41 a2 with ⟨er,a3⟩ | ⟨⟨⟩,a3⟩
   ·obtain⟨hb6,rfl⟩:=jW tN hr6
    have fq:=ab ((aa dJ).trans hb6);have go:Hid (RR=.error (er,a3)):=ab (by rw[aa yX,hr6,jr])
    clear tN hb6 hr6 p0 p1 p2 p3 p4 pf;unfold aC;go_wp2_with fail;exact⟨rfl,fF (aa go) (aa fq) rfl⟩
   ·obtain⟨hb6,dZ,hR6⟩:=js tN hr6
    unfold yu at dZ;subst dZ;clear p0 p1 p2 p3 p4 pf;obtain⟨p0,p1,p2,p3,p4⟩:=ee (dK hb6 (aa kQ) mO);have gF:=ab (dK hb6 (aa dC) bi);have fq:=ab ((aa dJ).trans hb6);have H6:=ab hR6;have go:Hid (RR=.ok (aP K ⟨#[]⟩ n ⟨#[]⟩ [],a3)):=ab (by rw[aa yX,hr6,dw])
    clear tN hb6 hr6 hR6;go_wp2_with (first
     | (refine bh rfl 27 _ _ rfl w.heap.size (gK K ⟨#[]⟩ (n:Int)) rfl rfl 27 aB (aa gF) dE rfl (zC _ _ _) ?_)
     | fail)
    (try simp only[Exit.inBlock,Exit.then])
    refine bK (dM rfl _ _ w.heap.size 27 (gK K ⟨#[]⟩ (n:Int)) (0,0) _ rfl (bW _ _ _ _ _ _ (aa gF)) underlying27 rfl dE) rfl ?_;exact lA (aa go) (jU (aa fq) (aw _) _) ⟨aP K ⟨#[]⟩ n ⟨#[]⟩ [],rfl,pL _ _ _ _,sT (by omega) (by have h:=aa iJ;omega) (by decide) (by decide)⟩ ((aa H6).setRow bi _)
theorem He {d:Nat} {B:ByteArray→Nat→Rd PT} {s:ByteArray} {i z:Nat} {o:Int} {w:World} (hs:s.size≤65536) (hl:dj (aj s i)=true) (hR:bQ w z s i o) (hS:dA w) (hzG:z≠1)
  {K:Nat} (hK:kz (s.extract i (cn s i))=K) (h0:K≠0) (jD:K≠20) (hh:aO K=1):
  Calls prog 195 #[.pointer (some ⟨z,0,none⟩)] w fun e w'=>fR (eW w.heap.size) z s o w (fK d (B s) s i) e w':=by
 have hE:=rO hl;have hzl:=hR.lt;have bd:But z w (w.alloc (.cells aB 27)):=(But.refl z w).alloc _;have eO:=hR.below ((aV _ _).alloc (aw _) (.cells aB 27));have bi:w.heap.size≠z:=by omega
 have wE:K≤24:=hK▸xT _;have ap:=ab (hS.but bd hzG);have aF:=ab bd;have eb:Hid ((w.alloc (.cells aB 27)).heap[w.heap.size]? =some (.cells aB 27 (0,0))):=ab (oQ);have HW:=ab (wM _ hs (by omega) eO)
 have oF:=ab (fun w h=>xM (s.extract i (cn s i)) w h)
 rw[hK] at oF;have pu:=ab (fun w h=>zv (z:=z) (o:=o) 40 (by decide) w hs hE.2 h)
 have HT1A:=ab (fun x a=>nR s 40 (by decide) (cn s i) x a hE.2)
 have dT:Hid (fK d (B s) s i=bJ (ez s 40 (cn s i)) fun _ a=>bJ (mE s a) fun t b=>bJ (ez s 41 b) fun _ c=>.ok (aP K t 0 ⟨#[]⟩ [],c)):=ab (by
  unfold fK;rw[hK,ac h0,ac jD,ac (by rw[hh];decide),af hh])
 generalize fK d (B s) s i=RR at *;have c1:=eO.c1;unfold aB at c1;have e0:((K:Int)==0)=false:=bn;have e20:((K:Int)==20)=false:=bn;have hKb:(0:Int)≤(K:Int)∧(K:Int) < 25:=by omega
 have HH:=ab hh;have tQ:1≤K:=by omega
 clear hR eO hS bd hl hK hh h0 jD;generalize s.extract i (cn s i)=word at *;generalize cn s i=E at *;go_enter func195,ntmps195;go_wp2_with fail;refine(aa HW).mono ?_;rintro e w1 ⟨rfl,hb1,hR1⟩;have bL:=ab ((aa ap).but hb1 hzG);have d6:=ab (dK hb1 (aa eb) bi);have aX:=ab ((aa aF).trans hb1);have H1:=ab hR1;have gP:w.heap.size+1≤w1.heap.size:=(bC.1 (aa d6)).1;clear hb1 hR1 c1;go_wp2_with fail;refine(aa oF _ (aa bL)).mono ?_;rintro e w1 ⟨rfl,rfl⟩;have hb2:Below w1.heap.size w1 (w1.alloc (.cells (gK K ⟨#[]⟩ 0) 27)):=ba _;have gQ:=ab ((aa bL).later hb2);obtain⟨-,s1, -, -⟩:=aa gQ K tQ wE;rw[aa HH] at s1;have eE:=ab (an (aa d6) hb2);have aE:=ab ((aa aX).trans (But.of_below hb2));have H2:=ab ((aa H1).below hb2);have dz:Hid ((w1.alloc (.cells (gK K ⟨#[]⟩ 0) 27)).heap[w1.heap.size]? =some (.cells (gK K ⟨#[]⟩ 0) 27 (0,0))):=ab (ax rfl);unfold gK at s1;clear hb2;go_wp2_with fail;refine(aa pu _ (aa H2)).mono ?_;intro e w3 ox;have mO:w1.heap.size≠z:=by omega
 rcases hr3:ez s 40 E with ⟨er,a1⟩ | ⟨⟨⟩,a1⟩
 ·obtain⟨hb3,rfl⟩:=jW ox hr3
  have ao:=ab ((aa aE).trans hb3);have go:Hid (RR=.error (er,a1)):=ab (by rw[aa dT,hr3,jr])
  clear ox hb3 hr3 s1;unfold aC;go_wp2_with fail;exact⟨rfl,fF (aa go) (aa ao) rfl⟩
 ·obtain⟨hb3,hv3,hR3⟩:=js ox hr3
  unfold yu at hv3;subst hv3;have nv:=aa HT1A _ a1 hr3;have gq:=ab (dK hb3 (aa dz) mO);have bo:=ab (dK hb3 (aa eE) bi);have ao:=ab ((aa aE).trans hb3);have H3:=ab hR3;have HNU:=ab (fun w h=>I5 (z:=z) (o:=o) w hs nv.2 h)
  have ml:=ab (fun n b=>zR s a1 n b nv.2)
  have wG:Hid (RR=bJ (mE s a1) fun n b=>bJ (ez s 41 b) fun _ c=>.ok (aP K n 0 ⟨#[]⟩ [],c)):=ab (by rw[aa dT,hr3,dw])
  clear ox hb3 hr3 s1 hR3 dT;go_wp2_with fail;refine(aa HNU _ (aa H3)).mono ?_;intro e w4 tO;rcases hr4:mE s a1 with ⟨er,a2⟩ | ⟨n,a2⟩
  ·obtain⟨hb4,rfl⟩:=jW tO hr4
   have dD:=ab ((aa ao).trans hb4);have go:Hid (RR=.error (er,a2)):=ab (by rw[aa wG,hr4,jr])
   clear tO hb4 hr4;unfold aC;go_wp2_with fail;exact⟨rfl,fF (aa go) (aa dD) rfl⟩
  ·obtain⟨hb4,vb,hR4⟩:=js tO hr4
   unfold lE at vb;subst vb;have yL:=aa ml n a2 hr4;have iJ:=ab (MY hs hr4);have ig:=ab (dK hb4 (aa gq) mO);have bY:=ab (dK hb4 (aa bo) bi);have dD:=ab ((aa ao).trans hb4);have H4:=ab hR4;obtain⟨p0,p1,p2,p3,p4⟩:=ee (aa ig);have pf:=cN w4 w1.heap.size 1 _ _ (aa ig);have kQ:Hid ((w4.setCell ⟨w1.heap.size,1,none⟩ (.string n)).heap[w1.heap.size]? =some (.cells (gK K n 0) 27 (0,0))):=ab (fB w4 w1.heap.size 1 _ _ _ (aa ig));have dC:Hid ((w4.setCell ⟨w1.heap.size,1,none⟩ (.string n)).heap[w.heap.size]? =some (.cells aB 27 (0,0))):=ab ((dh w4 ⟨w1.heap.size,1,none⟩ w.heap.size _ (by show w.heap.size≠w1.heap.size;omega)).trans (aa bY))
   have H5:Hid (bQ (w4.setCell ⟨w1.heap.size,1,none⟩ (.string n)) z s a2 o):=ab ((dh w4 ⟨w1.heap.size,1,none⟩ z _ (by show z≠w1.heap.size;omega)).trans (aa H4))
   have dJ:Hid (But z w (w4.setCell ⟨w1.heap.size,1,none⟩ (.string n))):=ab (zk (aa dD) (by omega) _ _)
   have ke:=ab (fun w h=>zv (z:=z) (o:=o) 41 (by decide) w hs yL.2 h)
   have yX:Hid (RR=bJ (ez s 41 a2) fun _ c=>.ok (aP K n 0 ⟨#[]⟩ [],c)):=ab (by rw[aa wG,hr4,dw])
   clear tO hb4 hr4 hR4 wG;go_wp2_with fail;refine(aa ke _ (aa H5)).mono ?_;intro e w6 tN;rcases hr6:ez s 41 a2 with ⟨er,a3⟩ | ⟨⟨⟩,a3⟩
   ·obtain⟨hb6,rfl⟩:=jW tN hr6
    have fq:=ab ((aa dJ).trans hb6);have go:Hid (RR=.error (er,a3)):=ab (by rw[aa yX,hr6,jr])
    clear tN hb6 hr6 p0 p1 p2 p3 p4 pf;unfold aC;go_wp2_with fail;exact⟨rfl,fF (aa go) (aa fq) rfl⟩
   ·obtain⟨hb6,dZ,hR6⟩:=js tN hr6
    unfold yu at dZ;subst dZ;clear p0 p1 p2 p3 p4 pf;obtain⟨p0,p1,p2,p3,p4⟩:=ee (dK hb6 (aa kQ) mO);have gF:=ab (dK hb6 (aa dC) bi);have fq:=ab ((aa dJ).trans hb6);have H6:=ab hR6;have go:Hid (RR=.ok (aP K n 0 ⟨#[]⟩ [],a3)):=ab (by rw[aa yX,hr6,dw])
    clear tN hb6 hr6 hR6;go_wp2_with (first
     | (refine bh rfl 27 _ _ rfl w.heap.size (gK K n 0) rfl rfl 27 aB (aa gF) dE rfl (zC _ _ _) ?_)
     | fail)
    (try simp only[Exit.inBlock,Exit.then])
    refine bK (dM rfl _ _ w.heap.size 27 (gK K n 0) (0,0) _ rfl (bW _ _ _ _ _ _ (aa gF)) underlying27 rfl dE) rfl ?_;exact lA (aa go) (jU (aa fq) (aw _) _) ⟨aP K n 0 ⟨#[]⟩ [],rfl,pL _ _ _ _,sT (by omega) (by omega) (aa iJ) (by decide)⟩ ((aa H6).setRow bi _)
open Go.RowKit
theorem EC {w:World} {B g:Nat} {U:PT} (h:w.heap[g]? =some (.cells (ai U) 27 (0,0))) (hB:B≤g):bP w B 27 5 eH (.slice (some ⟨g,0,none⟩) 1 1) [U]:=
 ⟨rfl,.inr ⟨g,1,ai U,rfl,hB,h,aw _,by unfold maxLen;decide,rfl,rfl⟩⟩
theorem bf.newrow {B C:Nat} {w:World} {U:PT} (h:bf C w U) (hc:B≤C) (o:Obj):fX B (some w.heap.size) (w.alloc o) U:=fun X hX=>h X fun i h1 h2=>by
 refine(hX i (by omega) (by rw[dS];omega) (fun e=>by injection e with e;omega)).trans ?_
 exact Below.heap_alloc _ _ _ h2
theorem Dr {k' B g cap:Nat} {L l:List PT} {nm:ByteArray} {w:World} (hk:k'≤100) (hn:nm.size≤65536) (hK:KidsL B w (.slice (some ⟨g,0,none⟩) L.length cap) L l):bf B w (fS (k':Int) nm g cap L):=by
 intro X hX;have lg:=hK.row.low (k:=g) rfl;have hr:bP X B 27 5 eH (.slice (some ⟨g,0,none⟩) L.length cap) L:=hK.row.same fun k hk=>by
  have:k=g:=by simpa [Value.ownBlock] using hk.symm
  subst this;exact hX k lg.1 lg.2
 exact By hr (fun x hx=>(hK.lies x hx).lies X hX) (k':Int) rfl hk hn
theorem KidsL.step {B:Nat} {w w':World} {v:Value} {L l:List PT} (h:KidsL B w v L l) (hs:w.heap.size≤w'.heap.size) (hb:∀i,B≤i→i < w.heap.size→w'.heap[i]? =w.heap[i]?):KidsL B w' v L l:=
 ⟨h.row.same fun k hk=>hb k (h.row.low hk).1 (h.row.low hk).2,h.can,fun x hx=>(h.lies x hx).step hs fun i h1 h2 _=>hb i h1 h2⟩
theorem KidsL.but {B z:Nat} {w w':World} {v:Value} {L l:List PT} (h:KidsL B w v L l) (hb:But z w w') (hz:z < B):KidsL B w' v L l:=h.step hb.size fun i h1 h2=>hb.block i h2 (by omega)
theorem KidsL.one {B C:Nat} {w:World} {U:PT} (h:bf C w U) (hc:B≤C) (hw:B≤w.heap.size):KidsL B (w.alloc (.cells (ai U) 27)) (.slice (some ⟨w.heap.size,0,none⟩) 1 1) [U] [U.can]:=
 ⟨EC (ax rfl) hw,rfl,fun x hx=>by
  rw[jv] at hx;subst hx;exact h.newrow hc _⟩
theorem Hf {d:Nat} {B:ByteArray→Nat→Rd PT} {s:ByteArray} {i z:Nat} {o:Int} {w:World} (hs:s.size≤65536) (hl:dj (aj s i)=true) (hR:bQ w z s i o) (hS:dA w) (hzG:z≠1)
  {K:Nat} (hK:kz (s.extract i (cn s i))=K) (h0:K=0):
  Calls prog 195 #[.pointer (some ⟨z,0,none⟩)] w fun e w'=>fR (eW w.heap.size) z s o w (fK d (B s) s i) e w':=by
 have hE:=rO hl;have hzl:=hR.lt;have bd:But z w (w.alloc (.cells aB 27)):=(But.refl z w).alloc _;have eO:=hR.below ((aV _ _).alloc (aw _) (.cells aB 27));have bi:w.heap.size≠z:=by omega
 have wE:K≤24:=hK▸xT _;have ap:=ab (hS.but bd hzG);have aF:=ab bd;have eb:Hid ((w.alloc (.cells aB 27)).heap[w.heap.size]? =some (.cells aB 27 (0,0))):=ab (oQ);have HW:=ab (wM _ hs (by omega) eO)
 have oF:=ab (fun w h=>xM (s.extract i (cn s i)) w h)
 rw[hK] at oF;have dT:Hid (fK d (B s) s i=.error (7,i)):=ab (by
  unfold fK;rw[hK,af h0])
 have HTH:=ab (fun w=>wN 7 i w)
 generalize fK d (B s) s i=RR at *;have c1:=eO.c1;unfold aB at c1;have e0:((K:Int)==0)=true:=bt;have hKb:(0:Int)≤(K:Int)∧(K:Int) < 25:=by omega
 clear hR eO hS bd hl hK h0;generalize s.extract i (cn s i)=word at *;generalize cn s i=E at *;go_enter func195,ntmps195;go_wp2_with fail;refine(aa HW).mono ?_;rintro e w1 ⟨rfl,hb1,hR1⟩;have bL:=ab ((aa ap).but hb1 hzG);have d6:=ab (dK hb1 (aa eb) bi);have aX:=ab ((aa aF).trans hb1);have H1:=ab hR1;have gP:w.heap.size+1≤w1.heap.size:=(bC.1 (aa d6)).1;clear hb1 hR1 c1;go_wp2_with fail;refine(aa oF _ (aa bL)).mono ?_;rintro e w1 ⟨rfl,rfl⟩;have hb2:Below w1.heap.size w1 (w1.alloc (.cells (gK K ⟨#[]⟩ 0) 27)):=ba _;have aE:=ab ((aa aX).trans (But.of_below hb2));clear hb2;unfold gK at aE;go_wp2_with (refine(aa HTH _).mono ?_;rintro e w ⟨rfl,rfl⟩;unfold aC);exact⟨rfl,fF (aa dT) (aa aE) rfl⟩
theorem Hg {d:Nat} {B:ByteArray→Nat→Rd PT} {s:ByteArray} {i z:Nat} {o:Int} {w:World} (hs:s.size≤65536) (hl:dj (aj s i)=true) (hR:bQ w z s i o) (hS:dA w) (hzG:z≠1)
  {K:Nat} (hK:kz (s.extract i (cn s i))=K) (h0:K≠0) (jD:K≠20) (h2:aO K≠2) (h1:aO K≠1):
  Calls prog 195 #[.pointer (some ⟨z,0,none⟩)] w fun e w'=>fR (eW w.heap.size) z s o w (fK d (B s) s i) e w':=by
 have hE:=rO hl;have hzl:=hR.lt;have bd:But z w (w.alloc (.cells aB 27)):=(But.refl z w).alloc _;have eO:=hR.below ((aV _ _).alloc (aw _) (.cells aB 27));have bi:w.heap.size≠z:=by omega
 have wE:K≤24:=hK▸xT _;have ap:=ab (hS.but bd hzG);have aF:=ab bd;have eb:Hid ((w.alloc (.cells aB 27)).heap[w.heap.size]? =some (.cells aB 27 (0,0))):=ab (oQ);have HW:=ab (wM _ hs (by omega) eO)
 have oF:=ab (fun w h=>xM (s.extract i (cn s i)) w h)
 rw[hK] at oF;have dT:Hid (fK d (B s) s i=.ok (aP K ⟨#[]⟩ 0 ⟨#[]⟩ [],cn s i)):=ab (by
  unfold fK;rw[hK,ac h0,ac jD,ac h2,ac h1])
 generalize fK d (B s) s i=RR at *;have c1:=eO.c1;unfold aB at c1;have e0:((K:Int)==0)=false:=bn;have e20:((K:Int)==20)=false:=bn;have hKb:(0:Int)≤(K:Int)∧(K:Int) < 25:=by omega
 have f2:(aO (K:Int)==2)=false:=bn h2;have f1:(aO (K:Int)==1)=false:=bn h1;have tQ:1≤K:=by omega
 clear hR eO hS bd hl hK h2 h1 h0 jD;generalize s.extract i (cn s i)=word at *;generalize cn s i=E at *;go_enter func195,ntmps195;go_wp2_with fail;refine(aa HW).mono ?_;rintro e w1 ⟨rfl,hb1,hR1⟩;have bL:=ab ((aa ap).but hb1 hzG);have d6:=ab (dK hb1 (aa eb) bi);have aX:=ab ((aa aF).trans hb1);have H1:=ab hR1;have gP:w.heap.size+1≤w1.heap.size:=(bC.1 (aa d6)).1;clear hb1 hR1 c1;go_wp2_with fail;refine(aa oF _ (aa bL)).mono ?_;rintro e w1 ⟨rfl,rfl⟩;have hb2:Below w1.heap.size w1 (w1.alloc (.cells (gK K ⟨#[]⟩ 0) 27)):=ba _;have gQ:=ab ((aa bL).later hb2);obtain⟨-,s1, -, -⟩:=aa gQ K tQ wE;have eE:=ab (an (aa d6) hb2);have aE:=ab ((aa aX).trans (But.of_below hb2));have H2:=ab ((aa H1).below hb2);have dz:Hid ((w1.alloc (.cells (gK K ⟨#[]⟩ 0) 27)).heap[w1.heap.size]? =some (.cells (gK K ⟨#[]⟩ 0) 27 (0,0))):=ab (ax rfl);unfold gK at s1;clear hb2;obtain⟨p0,p1,p2,p3,p4⟩:=ee (aa dz);unfold gK at p0 p1 p2 p3 p4 eE aE H2;generalize aO (K:Int)=hv at *;go_wp2_with (first
  | (refine bh rfl 27 _ _ rfl w.heap.size (gK K ⟨#[]⟩ 0) rfl rfl 27 aB (aa eE) dE rfl (zC _ _ _) ?_)
  | fail)
 (try simp only[Exit.inBlock,Exit.then])
 refine bK (dM rfl _ _ w.heap.size 27 (gK K ⟨#[]⟩ 0) (0,0) _ rfl (bW _ _ _ _ _ _ (aa eE)) underlying27 rfl dE) rfl ?_;exact lA (aa dT) (jU (aa aE) (aw _) _) ⟨aP K ⟨#[]⟩ 0 ⟨#[]⟩ [],rfl,pL _ _ _ _,sT (by omega) (by omega) (by decide) (by decide)⟩ ((aa H2).setRow bi _)
theorem Ij {d:Nat} {B:ByteArray→Nat→Rd PT} {s:ByteArray} {i z:Nat} {o:Int} {w:World} (hs:s.size≤65536) (hl:dj (aj s i)=true) (hR:bQ w z s i o) (hS:dA w) (hzG:z≠1)
  {K:Nat} (hK:kz (s.extract i (cn s i))=K) (jD:K=20) (ho:o=((200 - d:Nat):Int)) (jj:oR 194 d (fun s=>jZ d (B s) s)):
  Calls prog 195 #[.pointer (some ⟨z,0,none⟩)] w fun e w'=>fR (eW w.heap.size) z s o w (fK d (B s) s i) e w':=by
 have hE:=rO hl;have hzl:=hR.lt;have bd:But z w (w.alloc (.cells aB 27)):=(But.refl z w).alloc _;have eO:=hR.below ((aV _ _).alloc (aw _) (.cells aB 27));have bi:w.heap.size≠z:=by omega
 have wE:K≤24:=hK▸xT _;have ap:=ab (hS.but bd hzG);have aF:=ab bd;have eb:Hid ((w.alloc (.cells aB 27)).heap[w.heap.size]? =some (.cells aB 27 (0,0))):=ab (oQ);have HW:=ab (wM _ hs (by omega) eO)
 have oF:=ab (fun w h=>xM (s.extract i (cn s i)) w h)
 rw[hK] at oF;have dT:Hid (fK d (B s) s i=bJ (jZ d (B s) s (cn s i)) fun p m=>.ok (aP 20 ⟨#[]⟩ 0 ⟨#[]⟩ [p],m)):=ab (by
  unfold fK;rw[hK,ac (by omega),af jD])
 have HBK:Hid (∀w,bQ w z s (cn s i) o→dA w→Calls prog 194 #[.pointer (some ⟨z,0,none⟩)] w fun e w'=>fR (eW w.heap.size) z s o w (jZ d (B s) s (cn s i)) e w'):=ab (fun w h1 h2=>by rw[ho] at h1 ⊢;exact jj s (cn s i) z w hs hE.2 h1 h2 hzG)
 generalize jZ d (B s) s (cn s i)=RB at *;generalize fK d (B s) s i=RR at *;have c1:=eO.c1;unfold aB at c1;have e0:((K:Int)==0)=false:=bn;have e20:((K:Int)==20)=true:=bt;have hKb:(0:Int)≤(K:Int)∧(K:Int) < 25:=by omega
 have tQ:1≤K:=by omega
 have H20:=ab jD;clear jD;clear hR eO hS bd hl hK jj ho;generalize s.extract i (cn s i)=word at *;generalize cn s i=E at *;go_enter func195,ntmps195;go_wp2_with fail;refine(aa HW).mono ?_;rintro e w1 ⟨rfl,hb1,hR1⟩;have bL:=ab ((aa ap).but hb1 hzG);have d6:=ab (dK hb1 (aa eb) bi);have aX:=ab ((aa aF).trans hb1);have H1:=ab hR1;have gP:w.heap.size+1≤w1.heap.size:=(bC.1 (aa d6)).1;clear hb1 hR1 c1;go_wp2_with fail;refine(aa oF _ (aa bL)).mono ?_;rintro e w1 ⟨rfl,rfl⟩;have hb2:Below w1.heap.size w1 (w1.alloc (.cells (gK K ⟨#[]⟩ 0) 27)):=ba _;have gQ:=ab ((aa bL).later hb2);have eE:=ab (an (aa d6) hb2);have aE:=ab ((aa aX).trans (But.of_below hb2));have H2:=ab ((aa H1).below hb2);have dz:Hid ((w1.alloc (.cells (gK K ⟨#[]⟩ 0) 27)).heap[w1.heap.size]? =some (.cells (gK K ⟨#[]⟩ 0) 27 (0,0))):=ab (ax rfl);clear hb2;go_wp2_with fail;refine(aa HBK _ (aa H2) (aa gQ)).mono ?_;intro e w3 ox;have mO:w1.heap.size≠z:=by omega
 rcases RB with ⟨er,a1⟩ | ⟨q,a1⟩
 ·obtain⟨hb3,rfl⟩:=jW ox rfl
  have ao:=ab ((aa aE).trans hb3);have go:Hid (RR=.error (er,a1)):=ab (by rw[aa dT,jr])
  clear ox hb3;unfold aC;go_wp2_with fail;exact⟨rfl,fF (aa go) (aa ao) rfl⟩
 ·obtain⟨hb3,⟨U,rfl,hU,hL⟩,hR3⟩:=js ox rfl
  have go:Hid (RR=.ok (aP 20 ⟨#[]⟩ 0 ⟨#[]⟩ [q],a1)):=ab (by rw[aa dT,dw])
  rw[dS] at hL;have vd:w1.heap.size+1≤w3.heap.size:=by have:=hb3.size;rw[dS] at this;exact this
  have gq:=ab (dK hb3 (aa dz) mO);have bo:=ab (dK hb3 (aa eE) bi);have ao:=ab ((aa aE).trans hb3);have H3:=ab hR3;have sr:=KidsL.one (B:=w1.heap.size+1) hL (aw _) (by omega)
  have hb4:Below w3.heap.size w3 (w3.alloc (.cells (ai U) 27)):=ba _;have ig:=ab (an (aa gq) hb4);have bY:=ab (an (aa bo) hb4);have dD:=ab ((aa ao).trans (But.of_below hb4));have H4:=ab ((aa H3).below hb4);have gr:=ab sr;have HU:=ab hU;obtain⟨p0,p1,p2,p3,p4⟩:=ee (aa ig);have pf:=cN _ w1.heap.size 4 _ _ (aa ig);obtain⟨V,hV⟩:∃V:Value,V=.slice (some ⟨w3.heap.size,0,none⟩) 1 1:=⟨_,rfl⟩;have kQ:Hid (((w3.alloc (.cells (ai U) 27)).setCell ⟨w1.heap.size,4,none⟩ (.slice (some ⟨w3.heap.size,0,none⟩) 1 1)).heap[w1.heap.size]? =some (.cells (ai (fS (K:Int) ⟨#[]⟩ w3.heap.size 1 [U])) 27 (0,0))):=ab (fB _ w1.heap.size 4 _ _ _ (aa ig));have dC:Hid (((w3.alloc (.cells (ai U) 27)).setCell ⟨w1.heap.size,4,none⟩ (.slice (some ⟨w3.heap.size,0,none⟩) 1 1)).heap[w.heap.size]? =some (.cells aB 27 (0,0))):=ab ((dh _ ⟨w1.heap.size,4,none⟩ w.heap.size _ (by show w.heap.size≠w1.heap.size;omega)).trans (aa bY))
  have H5:Hid (bQ ((w3.alloc (.cells (ai U) 27)).setCell ⟨w1.heap.size,4,none⟩ (.slice (some ⟨w3.heap.size,0,none⟩) 1 1)) z s a1 o):=ab ((dh _ ⟨w1.heap.size,4,none⟩ z _ (by show z≠w1.heap.size;omega)).trans (aa H4))
  have dJ:Hid (But z w ((w3.alloc (.cells (ai U) 27)).setCell ⟨w1.heap.size,4,none⟩ (.slice (some ⟨w3.heap.size,0,none⟩) 1 1))):=ab (zk (aa dD) (by omega) _ _)
  have pC:=ab ((aa gr).step (w':=((w3.alloc (.cells (ai U) 27)).setCell ⟨w1.heap.size,4,none⟩ (.slice (some ⟨w3.heap.size,0,none⟩) 1 1))) (by simp) (fun i h1 _=>dh _ ⟨w1.heap.size,4,none⟩ i _ (by show i≠w1.heap.size;omega)))
  obtain⟨q0,q1,q2,q3,q4⟩:=ee (aa kQ);clear ox hb3 hR3 hU hL sr hb4 hV;unfold ai at p0 p1 p2 p3 p4 pf q0 q1 q2 q3 q4 dC;unfold pv;go_wp2_with (first
   | (refine bh rfl 27 _ _ rfl w.heap.size (ai (fS (K:Int) ⟨#[]⟩ w3.heap.size 1 [U])) rfl rfl 27 aB (aa dC) dE rfl (gZ _) ?_)
   | fail)
  (try simp only[Exit.inBlock,Exit.then])
  refine bK (dM rfl _ _ w.heap.size 27 (ai (fS (K:Int) ⟨#[]⟩ w3.heap.size 1 [U])) (0,0) _ rfl (bW _ _ _ _ _ _ (aa dC)) underlying27 rfl dE) rfl ?_;exact lA (aa go) (jU (aa dJ) (aw _) _) ⟨fS (K:Int) ⟨#[]⟩ w3.heap.size 1 [U],rfl,by rw[wS,fM,jM,aa HU,aa H20];rfl,((Dr (k':=K) (by omega) (by decide) (aa pC)).setRow (by omega) _).mono (by omega)⟩ ((aa H5).setRow bi _)
open Go.RowKit
theorem G6 {d:Nat} {B:ByteArray→Nat→Rd PT} (jj:oR 194 d (fun s=>jZ d (B s) s)) {s:ByteArray} {i z:Nat} {w:World} (hs:s.size≤65536) (hl:dj (aj s i)=true) (hR:bQ w z s i ((200 - d:Nat):Int)) (hS:dA w) (hzG:z≠1):
  Calls prog 195 #[.pointer (some ⟨z,0,none⟩)] w fun e w'=>fR (eW w.heap.size) z s ((200 - d:Nat):Int) w (fK d (B s) s i) e w':=by
 obtain⟨K,hK⟩:∃K,kz (s.extract i (cn s i))=K:=⟨_,rfl⟩
 by_cases h0:K=0
 ·exact Hf hs hl hR hS hzG hK h0
 ·by_cases jD:K=20
  ·exact Ij hs hl hR hS hzG hK jD rfl jj
  ·by_cases h2:aO K=2
   ·exact Ii hs hl hR hS hzG hK h0 jD h2
   ·by_cases h1:aO K=1
    ·exact He hs hl hR hS hzG hK h0 jD h1
    ·exact Hg hs hl hR hS hzG hK h0 jD h2 h1
theorem FV {s:ByteArray} {i j:Nat} {t:ByteArray} (hs:s.size≤65536) (h:ib s i=.ok (t,j)):t.size≤65536:=by
 unfold ib at h;split at h
 ·split at h
  ·cases h
  ·injection h with h;injection h with h _
   subst h;have:=ext_le s (sk s i) (cn s (sk s i));omega
 ·cases h
def nmO (k:Nat) (nm:ByteArray):Array Value:= #[.int .i64 (k:Int),.string ⟨#[]⟩,.int .i64 0,.string nm,.slice none 0 0]
theorem DW (k:Nat) (nm:ByteArray):(nmO k nm).all (·.oneCell')=true:=by simp[nmO,Value.oneCell']
theorem Er {d:Nat} {B:ByteArray→Nat→Rd PT} (jj:oR 194 d (fun s=>jZ d (B s) s)):oR 188 d (fun s=>j3 d (B s) s):=by
 intro s i z w hs hi hR hS hzG;have pb:=eG s i hi;have hzl:=hR.lt;have bd:But z w (w.alloc (.cells aB 27)):=(But.refl z w).alloc _;have eO:=hR.below ((aV _ _).alloc (aw _) (.cells aB 27));have bi:w.heap.size≠z:=by omega
 have ap:=ab (hS.but bd hzG);have aF:=ab bd;have eb:Hid ((w.alloc (.cells aB 27)).heap[w.heap.size]? =some (.cells aB 27 (0,0))):=ab (oQ);have HN:=ab (sU _ hs hi eO);have dW:=ab (fun (h:nx s i≠0)=>kW h)
 have mQ:Hid (∀w,bQ w z s (sk s i) ((200 - d:Nat):Int)→dA w→Calls prog 194 #[.pointer (some ⟨z,0,none⟩)] w fun e w'=>fR (eW w.heap.size) z s ((200 - d:Nat):Int) w (jZ d (B s) s (sk s i)) e w'):=ab (fun w h1 h2=>jj s (sk s i) z w hs pb.2 h1 h2 hzG)
 have pj:=ab (fun w (hl:dj (aj s (sk s i))=true) h1 h2=>G6 jj (z:=z) (w:=w) hs hl h1 h2 hzG)
 have iJ:=ab (sP (nx s i) (jY _ _));have vE:=ab (fun w h1 h2=>CK (s:=s) (i:=sk s i) (z:=z) (o:=((200 - d:Nat):Int)) w hs h1 h2)
 have fQ:=ab (fun w h1 h2=>D1 (s:=s) (i:=sk s i+1) (z:=z) (o:=((200 - d:Nat):Int)) w hs h1 h2)
 have xF:dj (nx s i)=dj (aj s (sk s i)):=rfl;show Calls _ _ _ _ fun e w'=>fR (eW w.heap.size) z s ((200 - d:Nat):Int) w (j3 d (B s) s i) e w'
 unfold j3;generalize hob:((200 - d:Nat):Int)=o at *;generalize jZ d (B s) s (sk s i)=RP at *;generalize fK d (B s) s (sk s i)=RW at *;clear hob hR eO hS bd jj
 by_cases gm:nx s i=39
 ·rw[af gm]
  have au:=aa dW (by omega)
  rw[gm] at HN;clear iJ fQ pj mQ gm xF dW;generalize sk s i=k at *;obtain⟨R,hq⟩:∃R,jK s k=R:=⟨_,rfl⟩;have aU:=ab hq;rw[hq] at vE ⊢;clear hq;rcases R with ⟨er,a1⟩ | ⟨t,a1⟩
  ·rw[jr]
   go_enter func188,ntmps188;go_wp2_with fail;refine(aa HN).mono ?_;rintro e w1 ⟨rfl,hb1,hR1⟩;have aX:=ab ((aa aF).trans hb1);have H1:=ab hR1;clear hb1 hR1;go_wp2_with (refine(aa vE _ au (aa H1)).mono ?_;intro e w3 hP;obtain⟨hb3,rfl⟩:=jW hP rfl;clear hP;have ao:=ab ((aa aX).trans hb3);clear hb3;unfold aC);exact⟨rfl,fF rfl (aa ao) rfl⟩
  ·rw[dw]
   have sD:=ab (FC hs (aa aU));go_enter func188,ntmps188;go_wp2_with fail;refine(aa HN).mono ?_;rintro e w1 ⟨rfl,hb1,hR1⟩;have aX:=ab ((aa aF).trans hb1);have d6:=ab (dK hb1 (aa eb) bi);have H1:=ab hR1;clear hb1 hR1;go_wp2_with fail;refine(aa vE _ au (aa H1)).mono ?_;intro e w3 hP;obtain⟨hb3,hv,hR3⟩:=js hP rfl;unfold lE at hv;subst hv;have ao:=ab ((aa aX).trans hb3);have bo:=ab (dK hb3 (aa d6) bi);have H3:=ab hR3;clear hP hb3 hR3;go_wp2_with (first
    | (refine bh rfl 27 _ _ rfl w.heap.size (gK 1 t 0) rfl rfl 27 aB (aa bo) dE rfl (zC _ _ _) ?_)
    | fail)
   (try simp only[Exit.inBlock,Exit.then])
   refine bK (dM rfl _ _ w.heap.size 27 (gK 1 t 0) (0,0) _ rfl (bW _ _ _ _ _ _ (aa bo)) underlying27 rfl dE) rfl ?_;exact lA rfl (jU (aa ao) (aw _) _) ⟨aP 1 t 0 ⟨#[]⟩ [],rfl,pL _ _ _ _,sT (by omega) (by omega) (aa sD) (by decide)⟩ ((aa H3).setRow bi _)
 ·rw[ac gm]
  have e39:((nx s i:Int)==39)=false:=bn
  by_cases ie:nx s i=40
  ·rw[af ie]
   have e40:((nx s i:Int)==40)=true:=bt;rw[ie] at HN;clear iJ fQ pj vE gm ie e39 e40 xF dW;generalize sk s i=k at *;rcases RP with ⟨er,a1⟩ | ⟨q,a1⟩
   ·go_enter func188,ntmps188
    go_wp2_with fail;refine(aa HN).mono ?_;rintro e w1 ⟨rfl,hb1,hR1⟩;have aX:=ab ((aa aF).trans hb1);have bL:=ab ((aa ap).but hb1 hzG);have H1:=ab hR1;clear hb1 hR1;go_wp2_with (refine(aa mQ _ (aa H1) (aa bL)).mono ?_;intro e w3 hP;obtain⟨hb3,rfl⟩:=jW hP rfl;clear hP;have ao:=ab ((aa aX).trans hb3);clear hb3;unfold aC);exact⟨rfl,fF rfl (aa ao) rfl⟩
   ·go_enter func188,ntmps188
    go_wp2_with fail;refine(aa HN).mono ?_;rintro e w1 ⟨rfl,hb1,hR1⟩;have aX:=ab ((aa aF).trans hb1);have d6:=ab (dK hb1 (aa eb) bi);have bL:=ab ((aa ap).but hb1 hzG);have H1:=ab hR1;have gP:w.heap.size+1≤w1.heap.size:=(bC.1 (aa d6)).1;clear hb1 hR1;go_wp2_with fail;refine(aa mQ _ (aa H1) (aa bL)).mono ?_;intro e w3 hP;obtain⟨hb3,⟨U,rfl,hU,hL⟩,hR3⟩:=js hP rfl;have ao:=ab ((aa aX).trans hb3);have bo:=ab (dK hb3 (aa d6) bi);have H3:=ab hR3;have HU:=ab (And.intro hU hL);clear hP hb3 hR3 hU hL;unfold pv;go_wp2_with (first
     | (refine bh rfl 27 _ _ rfl w.heap.size (ai U) rfl rfl 27 aB (aa bo) dE rfl (gZ _) ?_)
     | fail)
    (try simp only[Exit.inBlock,Exit.then])
    refine bK (dM rfl _ _ w.heap.size 27 (ai U) (0,0) _ rfl (bW _ _ _ _ _ _ (aa bo)) underlying27 rfl dE) rfl ?_;exact lA rfl (jU (aa ao) (aw _) _) ⟨U,rfl,(aa HU).1,((aa HU).2.setRow (by omega) _).mono (by omega)⟩ ((aa H3).setRow bi _)
  ·rw[ac ie]
   have e40:((nx s i:Int)==40)=false:=bn;clear vE mQ;have ca:∀(K b:Nat),(K=23∧b=64)∨(K=24∧b=42)→nx s i=b→Calls prog 188 #[.pointer (some ⟨z,0,none⟩)] w fun e w'=>fR (eW w.heap.size) z s o w (bJ (ib s (sk s i+1)) fun t e=>.ok (aP (K:Int) ⟨#[]⟩ 0 t [],e)) e w':=by
    intro K b hKb hnx;have au:=aa dW (by omega)
    rw[hnx] at HN;have qY:=ab (fun w h=>aa fQ w (by omega) h)
    clear iJ pj gm ie e39 e40 xF dW hnx fQ;generalize sk s i=k at *;obtain⟨R,hq⟩:∃R,ib s (k+1)=R:=⟨_,rfl⟩;have aU:=ab hq;rw[hq] at qY ⊢;clear hq;rcases R with ⟨er,a1⟩ | ⟨t,a1⟩
    ·rw[jr]
     rcases hKb with ⟨rfl,rfl⟩ | ⟨rfl,rfl⟩ <;> (
      go_enter func188,ntmps188;go_wp2_with fail;refine(aa HN).mono ?_;rintro e w1 ⟨rfl,hb1,hR1⟩;have aX:=ab ((aa aF).trans hb1);have H1:=ab (hR1.set1 (k+1));have aE:=ab ((aa aX).setCell 1 (.int .i64 ((k+1:Nat):Int)));have c1:=hR1.c1;have fz:=hR1.fz 1;clear hb1 hR1;go_wp2_with (refine(aa qY _ (aa H1)).mono ?_;intro e w3 hP;obtain⟨hb3,rfl⟩:=jW hP rfl;clear hP;have ao:=ab ((aa aE).trans hb3);clear hb3;unfold aC);exact⟨rfl,fF rfl (aa ao) rfl⟩)
    ·rw[dw]
     have sD:=ab (FV hs (aa aU));rcases hKb with ⟨rfl,rfl⟩ | ⟨rfl,rfl⟩ <;> (
      go_enter func188,ntmps188;go_wp2_with fail;refine(aa HN).mono ?_;rintro e w1 ⟨rfl,hb1,hR1⟩;have aX:=ab ((aa aF).trans hb1);have d6:=ab (dK (hb1.trans ((But.refl z w1).setCell 1 (.int .i64 ((k+1:Nat):Int)))) (aa eb) bi);have H1:=ab (hR1.set1 (k+1));have aE:=ab ((aa aX).setCell 1 (.int .i64 ((k+1:Nat):Int)));have c1:=hR1.c1;have fz:=hR1.fz 1;clear hb1 hR1;go_wp2_with fail;refine(aa qY _ (aa H1)).mono ?_;intro e w3 hP;obtain⟨hb3,hv,hR3⟩:=js hP rfl;unfold lE at hv;subst hv;have ao:=ab ((aa aE).trans hb3);have bo:=ab (dK hb3 (aa d6) bi);have H3:=ab hR3;clear hP hb3 hR3 c1 fz
      first
       | (
         go_wp2_with (first
         | (refine bh rfl 27 _ _ rfl w.heap.size (nmO 23 t) rfl rfl 27 aB (aa bo) dE rfl (DW _ _) ?_)
         | fail)
         (try simp only[Exit.inBlock,Exit.then])
         refine bK (dM rfl _ _ w.heap.size 27 (nmO 23 t) (0,0) _ rfl (bW _ _ _ _ _ _ (aa bo)) underlying27 rfl dE) rfl ?_;exact lA rfl (jU (aa ao) (aw _) _) ⟨aP 23 ⟨#[]⟩ 0 t [],rfl,pL _ _ _ _,sT (by omega) (by omega) (by decide) (aa sD)⟩ ((aa H3).setRow bi _))
       | (
         go_wp2_with (first
         | (refine bh rfl 27 _ _ rfl w.heap.size (nmO 24 t) rfl rfl 27 aB (aa bo) dE rfl (DW _ _) ?_)
         | fail)
         (try simp only[Exit.inBlock,Exit.then])
         refine bK (dM rfl _ _ w.heap.size 27 (nmO 24 t) (0,0) _ rfl (bW _ _ _ _ _ _ (aa bo)) underlying27 rfl dE) rfl ?_;exact lA rfl (jU (aa ao) (aw _) _) ⟨aP 24 ⟨#[]⟩ 0 t [],rfl,pL _ _ _ _,sT (by omega) (by omega) (by decide) (aa sD)⟩ ((aa H3).setRow bi _)))
   by_cases h64:nx s i=64
   ·rw[af h64]
    exact ca 23 64 (.inl ⟨rfl,rfl⟩) h64
   ·rw[ac h64]
    by_cases h42:nx s i=42
    ·rw[af h42]
     exact ca 24 42 (.inr ⟨rfl,rfl⟩) h42
    ·rw[ac h42]
     have e64:((nx s i:Int)==64)=false:=bn;have e42:((nx s i:Int)==42)=false:=bn;clear ca fQ gm ie h64 h42 dW
     cases hl:dj (nx s i)
     ·rw[hl] at iJ
      rw[ac (by decide)]
      clear hl xF pj;generalize nx s i=b at *;generalize sk s i=k at *;go_enter func188,ntmps188;go_wp2_with fail;refine(aa HN).mono ?_;rintro e w1 ⟨rfl,hb1,hR1⟩;have aX:=ab ((aa aF).trans hb1);have fc:=ab (uh w1 hR1);clear hb1 hR1;go_wp2_with fail;refine(aa iJ _).mono ?_;rintro e w1 ⟨rfl,rfl⟩;go_wp2_with (refine(aa fc).mono ?_;rintro e w ⟨rfl,rfl⟩;unfold aC);exact⟨rfl,fF rfl (aa aX) rfl⟩
     ·have HWO2:=ab (fun w h1 h2=>aa pj w (xF▸hl) h1 h2)
      rw[hl] at iJ;rw[af rfl];clear hl xF pj;generalize nx s i=b at *;generalize sk s i=k at *;rcases RW with ⟨er,a1⟩ | ⟨q,a1⟩
      ·go_enter func188,ntmps188
       go_wp2_with fail;refine(aa HN).mono ?_;rintro e w1 ⟨rfl,hb1,hR1⟩;have aX:=ab ((aa aF).trans hb1);have bL:=ab ((aa ap).but hb1 hzG);have H1:=ab hR1;clear hb1 hR1;go_wp2_with fail;refine(aa iJ _).mono ?_;rintro e w1 ⟨rfl,rfl⟩;go_wp2_with (refine(aa HWO2 _ (aa H1) (aa bL)).mono ?_;intro e w3 hP;obtain⟨hb3,rfl⟩:=jW hP rfl;clear hP;have ao:=ab ((aa aX).trans hb3);clear hb3;unfold aC);exact⟨rfl,fF rfl (aa ao) rfl⟩
      ·go_enter func188,ntmps188
       go_wp2_with fail;refine(aa HN).mono ?_;rintro e w1 ⟨rfl,hb1,hR1⟩;have aX:=ab ((aa aF).trans hb1);have d6:=ab (dK hb1 (aa eb) bi);have bL:=ab ((aa ap).but hb1 hzG);have H1:=ab hR1;have gP:w.heap.size+1≤w1.heap.size:=(bC.1 (aa d6)).1;clear hb1 hR1;go_wp2_with fail;refine(aa iJ _).mono ?_;rintro e w1 ⟨rfl,rfl⟩;go_wp2_with fail;refine(aa HWO2 _ (aa H1) (aa bL)).mono ?_;intro e w3 hP;obtain⟨hb3,⟨U,rfl,hU,hL⟩,hR3⟩:=js hP rfl;have ao:=ab ((aa aX).trans hb3);have bo:=ab (dK hb3 (aa d6) bi);have H3:=ab hR3;have HU:=ab (And.intro hU hL);clear hP hb3 hR3 hU hL;unfold pv;go_wp2_with (first
        | (refine bh rfl 27 _ _ rfl w.heap.size (ai U) rfl rfl 27 aB (aa bo) dE rfl (gZ _) ?_)
        | fail)
       (try simp only[Exit.inBlock,Exit.then])
       refine bK (dM rfl _ _ w.heap.size 27 (ai U) (0,0) _ rfl (bW _ _ _ _ _ _ (aa bo)) underlying27 rfl dE) rfl ?_;exact lA rfl (jU (aa ao) (aw _) _) ⟨U,rfl,(aa HU).1,((aa HU).2.setRow (by omega) _).mono (by omega)⟩ ((aa H3).setRow bi _)
end Go.Proofs.YtlmnjbipfacniaaGreatDoor
