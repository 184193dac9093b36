/- The reader of patterns: pieces that begin with a word, the o -/
import Derived.Test.YtlmnjbipfacniaaGreatDoorRdGM
import Derived.OrdersHeld
import Derived.StillTail
import Derived.RegionTactic
import Derived.WalkKit
import Derived.Below
import Derived.Deep.MidRow
import Derived.KernelRfl
set_option maxRecDepth 100000
set_option maxHeartbeats 4000000
namespace Go.Proofs.YtlmnjbipfacniaaGreatDoor
open Go.Proofs.Tryz
open Go.RowKit
theorem ER {w:World} {B g:Nat} {U:PT} (h:w.heap[g]? =some (.cells (ai U) 27 (0,0))) (hB:B≤g):cc w B 27 5 eO (.slice (some ⟨g,0,none⟩) 1 1) [U]:=
 ⟨rfl,.inr ⟨g,1,ai U,rfl,hB,h,ax _,by unfold maxLen;decide,rfl,rfl⟩⟩
theorem bd.newrow {B C:Nat} {w:World} {U:PT} (h:bd C w U) (hc:B≤C) (o:Obj):gm B (some w.heap.size) (w.alloc o) U:=fun X hX=>h X fun i h1 h2=>by
 refine(hX i (by omega) (by rw[eu];omega) (fun e=>by injection e with e;omega)).trans ?_
 exact Below.heap_alloc _ _ _ h2
theorem DJ {k' B g cap:Nat} {L l:List PT} {nm:ByteArray} {w:World} (hk:k'≤100) (hn:nm.size≤65536) (hK:KidsL B w (.slice (some ⟨g,0,none⟩) L.length cap) L l):bd B w (gd (k':Int) nm g cap L):=by
 intro X hX;have lc:=hK.row.low (k:=g) rfl;have hr:cc X B 27 5 eO (.slice (some ⟨g,0,none⟩) L.length cap) L:=hK.row.same fun k hk=>by
  have:k=g:=by simpa [Value.ownBlock] using hk.symm
  subst this;exact hX k lc.1 lc.2
 exact BO hr (fun x hx=>(hK.lies x hx).lies X hX) (k':Int) rfl hk hn
theorem KidsL.step {B:Nat} {w w':World} {v:Value} {L l:List PT} (h:KidsL B w v L l) (hs:w.heap.size≤w'.heap.size) (hb:∀i,B≤i→i < w.heap.size→w'.heap[i]? =w.heap[i]?):KidsL B w' v L l:=
 ⟨h.row.same fun k hk=>hb k (h.row.low hk).1 (h.row.low hk).2,h.can,fun x hx=>(h.lies x hx).step hs fun i h1 h2 _=>hb i h1 h2⟩
theorem KidsL.but {B z:Nat} {w w':World} {v:Value} {L l:List PT} (h:KidsL B w v L l) (hb:But z w w') (hz:z < B):KidsL B w' v L l:=h.step hb.size fun i h1 h2=>hb.block i h2 (by omega)
theorem KidsL.one {B C:Nat} {w:World} {U:PT} (h:bd C w U) (hc:B≤C) (hw:B≤w.heap.size):KidsL B (w.alloc (.cells (ai U) 27)) (.slice (some ⟨w.heap.size,0,none⟩) 1 1) [U] [U.can]:=
 ⟨ER (aw rfl) hw,rfl,fun x hx=>by
  rw[fE] at hx;subst hx;exact h.newrow hc _⟩
theorem Ij {d:Nat} {B:ByteArray→Nat→Rd PT} {s:ByteArray} {i z:Nat} {o:Int} {w:World} (hs:s.size≤65536) (hl:di (aj s i)=true) (hR:bR w z s i o) (hS:dI w) (hzG:z≠1)
  {K:Nat} (hK:iL (s.extract i (bX s i))=K) (h0:K=0):
  Calls prog 195 #[.pointer (some ⟨z,0,none⟩)] w fun e w'=>fZ (fv w.heap.size) z s o w (fB d (B s) s i) e w':=by
 have hE:=px hl;have hzl:=hR.lt;have aZ:But z w (w.alloc (.cells aB 27)):=(But.refl z w).alloc _;have fb:=hR.below ((aW _ _).alloc (ax _) (.cells aB 27));have bo:w.heap.size≠z:=by omega
 have wA:K≤24:=hK▸xZ _;have ao:=ab (hS.but aZ hzG);have aD:=ab aZ;have ei:Hid ((w.alloc (.cells aB 27)).heap[w.heap.size]? =some (.cells aB 27 (0,0))):=ab (oE);have HW:=ab (wJ _ hs (by omega) fb)
 have ou:=ab (fun w h=>xQ (s.extract i (bX s i)) w h)
 rw[hK] at ou;have eA:Hid (fB d (B s) s i=.error (7,i)):=ab (by
  unfold fB;rw[hK,af h0])
 have HTH:=ab (fun w=>wK 7 i w)
 generalize fB d (B s) s i=RR at *;have c1:=fb.c1;unfold aB at c1;have e0:((K:Int)==0)=true:=bt;have hKb:(0:Int)≤(K:Int)∧(K:Int) < 25:=by omega
 clear hR fb hS aZ hl hK h0;generalize s.extract i (bX s i)=word at *;generalize bX s i=E at *;go_enter func195,ntmps195;go_wp2_with fail;refine(aa HW).mono ?_;rintro e w1 ⟨rfl,hb1,hR1⟩;have bP:=ab ((aa ao).but hb1 hzG);have dy:=ab (dS hb1 (aa ei) bo);have bf:=ab ((aa aD).trans hb1);have H1:=ab hR1;have gW:w.heap.size+1≤w1.heap.size:=(bC.1 (aa dy)).1;clear hb1 hR1 c1;go_wp2_with fail;refine(aa ou _ (aa bP)).mono ?_;rintro e w1 ⟨rfl,rfl⟩;have hb2:Below w1.heap.size w1 (w1.alloc (.cells (gS K ⟨#[]⟩ 0) 27)):=ba _;have aF:=ab ((aa bf).trans (But.of_below hb2));clear hb2;unfold gS at aF;go_wp2_with (refine(aa HTH _).mono ?_;rintro e w ⟨rfl,rfl⟩;unfold aC);exact⟨rfl,fQ (aa eA) (aa aF) rfl⟩
theorem Ik {d:Nat} {B:ByteArray→Nat→Rd PT} {s:ByteArray} {i z:Nat} {o:Int} {w:World} (hs:s.size≤65536) (hl:di (aj s i)=true) (hR:bR w z s i o) (hS:dI w) (hzG:z≠1)
  {K:Nat} (hK:iL (s.extract i (bX s i))=K) (h0:K≠0) (ju:K≠20) (h2:aE K≠2) (h1:aE K≠1):
  Calls prog 195 #[.pointer (some ⟨z,0,none⟩)] w fun e w'=>fZ (fv w.heap.size) z s o w (fB d (B s) s i) e w':=by
 have hE:=px hl;have hzl:=hR.lt;have aZ:But z w (w.alloc (.cells aB 27)):=(But.refl z w).alloc _;have fb:=hR.below ((aW _ _).alloc (ax _) (.cells aB 27));have bo:w.heap.size≠z:=by omega
 have wA:K≤24:=hK▸xZ _;have ao:=ab (hS.but aZ hzG);have aD:=ab aZ;have ei:Hid ((w.alloc (.cells aB 27)).heap[w.heap.size]? =some (.cells aB 27 (0,0))):=ab (oE);have HW:=ab (wJ _ hs (by omega) fb)
 have ou:=ab (fun w h=>xQ (s.extract i (bX s i)) w h)
 rw[hK] at ou;have eA:Hid (fB d (B s) s i=.ok (aI K ⟨#[]⟩ 0 ⟨#[]⟩ [],bX s i)):=ab (by
  unfold fB;rw[hK,ac h0,ac ju,ac h2,ac h1])
 generalize fB d (B s) s i=RR at *;have c1:=fb.c1;unfold aB at c1;have e0:((K:Int)==0)=false:=bn;have e20:((K:Int)==20)=false:=bn;have hKb:(0:Int)≤(K:Int)∧(K:Int) < 25:=by omega
 have f2:(aE (K:Int)==2)=false:=bn h2;have f1:(aE (K:Int)==1)=false:=bn h1;have tO:1≤K:=by omega
 clear hR fb hS aZ hl hK h2 h1 h0 ju;generalize s.extract i (bX s i)=word at *;generalize bX s i=E at *;go_enter func195,ntmps195;go_wp2_with fail;refine(aa HW).mono ?_;rintro e w1 ⟨rfl,hb1,hR1⟩;have bP:=ab ((aa ao).but hb1 hzG);have dy:=ab (dS hb1 (aa ei) bo);have bf:=ab ((aa aD).trans hb1);have H1:=ab hR1;have gW:w.heap.size+1≤w1.heap.size:=(bC.1 (aa dy)).1;clear hb1 hR1 c1;go_wp2_with fail;refine(aa ou _ (aa bP)).mono ?_;rintro e w1 ⟨rfl,rfl⟩;have hb2:Below w1.heap.size w1 (w1.alloc (.cells (gS K ⟨#[]⟩ 0) 27)):=ba _;have fo:=ab ((aa bP).later hb2);obtain⟨-,s1, -, -⟩:=aa fo K tO wA;have dY:=ab (am (aa dy) hb2);have aF:=ab ((aa bf).trans (But.of_below hb2));have H2:=ab ((aa H1).below hb2);have dW:Hid ((w1.alloc (.cells (gS K ⟨#[]⟩ 0) 27)).heap[w1.heap.size]? =some (.cells (gS K ⟨#[]⟩ 0) 27 (0,0))):=ab (aw rfl);unfold gS at s1;clear hb2;obtain⟨p0,p1,p2,p3,p4⟩:=ej (aa dW);unfold gS at p0 p1 p2 p3 p4 dY aF H2;generalize aE (K:Int)=hv at *;go_wp2_with (first
  | (refine aX rfl 27 _ _ rfl w.heap.size (gS K ⟨#[]⟩ 0) rfl rfl 27 aB (aa dY) dK rfl (zI _ _ _) ?_)
  | fail)
 (try simp only[Exit.inBlock,Exit.then])
 refine ck (dT rfl _ _ w.heap.size 27 (gS K ⟨#[]⟩ 0) (0,0) _ rfl (cm _ _ _ _ _ _ (aa dY)) underlying27 rfl dK) rfl ?_;exact lz (aa eA) (j7 (aa aF) (ax _) _) ⟨aI K ⟨#[]⟩ 0 ⟨#[]⟩ [],rfl,pu _ _ _ _,sK (by omega) (by omega) (by decide) (by decide)⟩ ((aa H2).setRow bo _)
theorem IM {d:Nat} {B:ByteArray→Nat→Rd PT} {s:ByteArray} {i z:Nat} {o:Int} {w:World} (hs:s.size≤65536) (hl:di (aj s i)=true) (hR:bR w z s i o) (hS:dI w) (hzG:z≠1)
  {K:Nat} (hK:iL (s.extract i (bX s i))=K) (ju:K=20) (ho:o=((200 - d:Nat):Int)) (jw:oF 194 d (fun s=>jD d (B s) s)):
  Calls prog 195 #[.pointer (some ⟨z,0,none⟩)] w fun e w'=>fZ (fv w.heap.size) z s o w (fB d (B s) s i) e w':=by
 have hE:=px hl;have hzl:=hR.lt;have aZ:But z w (w.alloc (.cells aB 27)):=(But.refl z w).alloc _;have fb:=hR.below ((aW _ _).alloc (ax _) (.cells aB 27));have bo:w.heap.size≠z:=by omega
 have wA:K≤24:=hK▸xZ _;have ao:=ab (hS.but aZ hzG);have aD:=ab aZ;have ei:Hid ((w.alloc (.cells aB 27)).heap[w.heap.size]? =some (.cells aB 27 (0,0))):=ab (oE);have HW:=ab (wJ _ hs (by omega) fb)
 have ou:=ab (fun w h=>xQ (s.extract i (bX s i)) w h)
 rw[hK] at ou;have eA:Hid (fB d (B s) s i=bO (jD d (B s) s (bX s i)) fun p m=>.ok (aI 20 ⟨#[]⟩ 0 ⟨#[]⟩ [p],m)):=ab (by
  unfold fB;rw[hK,ac (by omega),af ju])
 have HBK:Hid (∀w,bR w z s (bX s i) o→dI w→Calls prog 194 #[.pointer (some ⟨z,0,none⟩)] w fun e w'=>fZ (fv w.heap.size) z s o w (jD d (B s) s (bX s i)) e w'):=ab (fun w h1 h2=>by rw[ho] at h1 ⊢;exact jw s (bX s i) z w hs hE.2 h1 h2 hzG)
 generalize jD d (B s) s (bX s i)=RB at *;generalize fB d (B s) s i=RR at *;have c1:=fb.c1;unfold aB at c1;have e0:((K:Int)==0)=false:=bn;have e20:((K:Int)==20)=true:=bt;have hKb:(0:Int)≤(K:Int)∧(K:Int) < 25:=by omega
 have tO:1≤K:=by omega
 have H20:=ab ju;clear ju;clear hR fb hS aZ hl hK jw ho;generalize s.extract i (bX s i)=word at *;generalize bX s i=E at *;go_enter func195,ntmps195;go_wp2_with fail;refine(aa HW).mono ?_;rintro e w1 ⟨rfl,hb1,hR1⟩;have bP:=ab ((aa ao).but hb1 hzG);have dy:=ab (dS hb1 (aa ei) bo);have bf:=ab ((aa aD).trans hb1);have H1:=ab hR1;have gW:w.heap.size+1≤w1.heap.size:=(bC.1 (aa dy)).1;clear hb1 hR1 c1;go_wp2_with fail;refine(aa ou _ (aa bP)).mono ?_;rintro e w1 ⟨rfl,rfl⟩;have hb2:Below w1.heap.size w1 (w1.alloc (.cells (gS K ⟨#[]⟩ 0) 27)):=ba _;have fo:=ab ((aa bP).later hb2);have dY:=ab (am (aa dy) hb2);have aF:=ab ((aa bf).trans (But.of_below hb2));have H2:=ab ((aa H1).below hb2);have dW:Hid ((w1.alloc (.cells (gS K ⟨#[]⟩ 0) 27)).heap[w1.heap.size]? =some (.cells (gS K ⟨#[]⟩ 0) 27 (0,0))):=ab (aw rfl);clear hb2;go_wp2_with fail;refine(aa HBK _ (aa H2) (aa fo)).mono ?_;intro e w3 oh;have mN:w1.heap.size≠z:=by omega
 rcases RB with ⟨er,a1⟩ | ⟨q,a1⟩
 ·obtain⟨hb3,rfl⟩:=j9 oh rfl
  have aq:=ab ((aa aF).trans hb3);have gA:Hid (RR=.error (er,a1)):=ab (by rw[aa eA,jA])
  clear oh hb3;unfold aC;go_wp2_with fail;exact⟨rfl,fQ (aa gA) (aa aq) rfl⟩
 ·obtain⟨hb3,⟨U,rfl,hU,hL⟩,hR3⟩:=jB oh rfl
  have gA:Hid (RR=.ok (aI 20 ⟨#[]⟩ 0 ⟨#[]⟩ [q],a1)):=ab (by rw[aa eA,dE])
  rw[eu] at hL;have vk:w1.heap.size+1≤w3.heap.size:=by have:=hb3.size;rw[eu] at this;exact this
  have ig:=ab (dS hb3 (aa dW) mN);have bj:=ab (dS hb3 (aa dY) bo);have aq:=ab ((aa aF).trans hb3);have H3:=ab hR3;have sd:=KidsL.one (B:=w1.heap.size+1) hL (ax _) (by omega)
  have hb4:Below w3.heap.size w3 (w3.alloc (.cells (ai U) 27)):=ba _;have iq:=ab (am (aa ig) hb4);have bZ:=ab (am (aa bj) hb4);have dz:=ab ((aa aq).trans (But.of_below hb4));have H4:=ab ((aa H3).below hb4);have gB:=ab sd;have HU:=ab hU;obtain⟨p0,p1,p2,p3,p4⟩:=ej (aa iq);have pf:=cT _ w1.heap.size 4 _ _ (aa iq);obtain⟨V,hV⟩:∃V:Value,V=.slice (some ⟨w3.heap.size,0,none⟩) 1 1:=⟨_,rfl⟩;have kR:Hid (((w3.alloc (.cells (ai U) 27)).setCell ⟨w1.heap.size,4,none⟩ (.slice (some ⟨w3.heap.size,0,none⟩) 1 1)).heap[w1.heap.size]? =some (.cells (ai (gd (K:Int) ⟨#[]⟩ w3.heap.size 1 [U])) 27 (0,0))):=ab (fK _ w1.heap.size 4 _ _ _ (aa iq));have dt:Hid (((w3.alloc (.cells (ai U) 27)).setCell ⟨w1.heap.size,4,none⟩ (.slice (some ⟨w3.heap.size,0,none⟩) 1 1)).heap[w.heap.size]? =some (.cells aB 27 (0,0))):=ab ((dm _ ⟨w1.heap.size,4,none⟩ w.heap.size _ (by show w.heap.size≠w1.heap.size;omega)).trans (aa bZ))
  have H5:Hid (bR ((w3.alloc (.cells (ai U) 27)).setCell ⟨w1.heap.size,4,none⟩ (.slice (some ⟨w3.heap.size,0,none⟩) 1 1)) z s a1 o):=ab ((dm _ ⟨w1.heap.size,4,none⟩ z _ (by show z≠w1.heap.size;omega)).trans (aa H4))
  have ez:Hid (But z w ((w3.alloc (.cells (ai U) 27)).setCell ⟨w1.heap.size,4,none⟩ (.slice (some ⟨w3.heap.size,0,none⟩) 1 1))):=ab (zq (aa dz) (by omega) _ _)
  have pd:=ab ((aa gB).step (w':=((w3.alloc (.cells (ai U) 27)).setCell ⟨w1.heap.size,4,none⟩ (.slice (some ⟨w3.heap.size,0,none⟩) 1 1))) (by simp) (fun i h1 _=>dm _ ⟨w1.heap.size,4,none⟩ i _ (by show i≠w1.heap.size;omega)))
  obtain⟨q0,q1,q2,q3,q4⟩:=ej (aa kR);clear oh hb3 hR3 hU hL sd hb4 hV;unfold ai at p0 p1 p2 p3 p4 pf q0 q1 q2 q3 q4 dt;unfold pv;go_wp2_with (first
   | (refine aX rfl 27 _ _ rfl w.heap.size (ai (gd (K:Int) ⟨#[]⟩ w3.heap.size 1 [U])) rfl rfl 27 aB (aa dt) dK rfl (ik _) ?_)
   | fail)
  (try simp only[Exit.inBlock,Exit.then])
  refine ck (dT rfl _ _ w.heap.size 27 (ai (gd (K:Int) ⟨#[]⟩ w3.heap.size 1 [U])) (0,0) _ rfl (cm _ _ _ _ _ _ (aa dt)) underlying27 rfl dK) rfl ?_;exact lz (aa gA) (j7 (aa ez) (ax _) _) ⟨gd (K:Int) ⟨#[]⟩ w3.heap.size 1 [U],rfl,by rw[wP,ib,kK,aa HU,aa H20];rfl,((DJ (k':=K) (by omega) (by decide) (aa pd)).setRow (by omega) _).mono (by omega)⟩ ((aa H5).setRow bo _)
open Go.RowKit
theorem Hz {d:Nat} {B:ByteArray→Nat→Rd PT} (jw:oF 194 d (fun s=>jD d (B s) s)) {s:ByteArray} {i z:Nat} {w:World} (hs:s.size≤65536) (hl:di (aj s i)=true) (hR:bR w z s i ((200 - d:Nat):Int)) (hS:dI w) (hzG:z≠1):
  Calls prog 195 #[.pointer (some ⟨z,0,none⟩)] w fun e w'=>fZ (fv w.heap.size) z s ((200 - d:Nat):Int) w (fB d (B s) s i) e w':=by
 obtain⟨K,hK⟩:∃K,iL (s.extract i (bX s i))=K:=⟨_,rfl⟩
 by_cases h0:K=0
 ·exact Ij hs hl hR hS hzG hK h0
 ·by_cases ju:K=20
  ·exact IM hs hl hR hS hzG hK ju rfl jw
  ·by_cases h2:aE K=2
   ·exact IL hs hl hR hS hzG hK h0 ju h2
   ·by_cases h1:aE K=1
    ·exact Ii hs hl hR hS hzG hK h0 ju h1
    ·exact Ik hs hl hR hS hzG hK h0 ju h2 h1
theorem Gj {s:ByteArray} {i j:Nat} {t:ByteArray} (hs:s.size≤65536) (h:gR s i=.ok (t,j)):t.size≤65536:=by
 unfold gR at h;split at h
 ·split at h
  ·cases h
  ·injection h with h;injection h with h _
   subst h;have:=ext_le s (sk s i) (bX s (sk s i));omega
 ·cases h
def nmO (k:Nat) (nm:ByteArray):Array Value:= #[.int .i64 (k:Int),.string ⟨#[]⟩,.int .i64 0,.string nm,.slice none 0 0]
theorem Ee (k:Nat) (nm:ByteArray):(nmO k nm).all (·.oneCell')=true:=by simp[nmO,Value.oneCell']
theorem EG {d:Nat} {B:ByteArray→Nat→Rd PT} (jw:oF 194 d (fun s=>jD d (B s) s)):oF 188 d (fun s=>jG d (B s) s):=by
 intro s i z w hs hi hR hS hzG;have oO:=eM s i hi;have hzl:=hR.lt;have aZ:But z w (w.alloc (.cells aB 27)):=(But.refl z w).alloc _;have fb:=hR.below ((aW _ _).alloc (ax _) (.cells aB 27));have bo:w.heap.size≠z:=by omega
 have ao:=ab (hS.but aZ hzG);have aD:=ab aZ;have ei:Hid ((w.alloc (.cells aB 27)).heap[w.heap.size]? =some (.cells aB 27 (0,0))):=ab (oE);have HN:=ab (sL _ hs hi fb);have dR:=ab (fun (h:nx s i≠0)=>kU h)
 have mQ:Hid (∀w,bR w z s (sk s i) ((200 - d:Nat):Int)→dI w→Calls prog 194 #[.pointer (some ⟨z,0,none⟩)] w fun e w'=>fZ (fv w.heap.size) z s ((200 - d:Nat):Int) w (jD d (B s) s (sk s i)) e w'):=ab (fun w h1 h2=>jw s (sk s i) z w hs oO.2 h1 h2 hzG)
 have oT:=ab (fun w (hl:di (aj s (sk s i))=true) h1 h2=>Hz jw (z:=z) (w:=w) hs hl h1 h2 hzG)
 have lP:=ab (sE (nx s i) (ke _ _));have vH:=ab (fun w h1 h2=>C4 (s:=s) (i:=sk s i) (z:=z) (o:=((200 - d:Nat):Int)) w hs h1 h2)
 have fY:=ab (fun w h1 h2=>Ek (s:=s) (i:=sk s i+1) (z:=z) (o:=((200 - d:Nat):Int)) w hs h1 h2)
 have xH:di (nx s i)=di (aj s (sk s i)):=rfl;show Calls _ _ _ _ fun e w'=>fZ (fv w.heap.size) z s ((200 - d:Nat):Int) w (jG d (B s) s i) e w'
 unfold jG;generalize hob:((200 - d:Nat):Int)=o at *;generalize jD d (B s) s (sk s i)=RP at *;generalize fB d (B s) s (sk s i)=RW at *;clear hob hR fb hS aZ jw
 by_cases gy:nx s i=39
 ·rw[af gy]
  have au:=aa dR (by omega)
  rw[gy] at HN;clear lP fY oT mQ gy xH dR;generalize sk s i=k at *;obtain⟨R,hq⟩:∃R,jV s k=R:=⟨_,rfl⟩;have aS:=ab hq;rw[hq] at vH ⊢;clear hq;rcases R with ⟨er,a1⟩ | ⟨t,a1⟩
  ·rw[jA]
   go_enter func188,ntmps188;go_wp2_with fail;refine(aa HN).mono ?_;rintro e w1 ⟨rfl,hb1,hR1⟩;have bf:=ab ((aa aD).trans hb1);have H1:=ab hR1;clear hb1 hR1;go_wp2_with (refine(aa vH _ au (aa H1)).mono ?_;intro e w3 hP;obtain⟨hb3,rfl⟩:=j9 hP rfl;clear hP;have aq:=ab ((aa bf).trans hb3);clear hb3;unfold aC);exact⟨rfl,fQ rfl (aa aq) rfl⟩
  ·rw[dE]
   have sq:=ab (Cd hs (aa aS));go_enter func188,ntmps188;go_wp2_with fail;refine(aa HN).mono ?_;rintro e w1 ⟨rfl,hb1,hR1⟩;have bf:=ab ((aa aD).trans hb1);have dy:=ab (dS hb1 (aa ei) bo);have H1:=ab hR1;clear hb1 hR1;go_wp2_with fail;refine(aa vH _ au (aa H1)).mono ?_;intro e w3 hP;obtain⟨hb3,hv,hR3⟩:=jB hP rfl;unfold lD at hv;subst hv;have aq:=ab ((aa bf).trans hb3);have bj:=ab (dS hb3 (aa dy) bo);have H3:=ab hR3;clear hP hb3 hR3;go_wp2_with (first
    | (refine aX rfl 27 _ _ rfl w.heap.size (gS 1 t 0) rfl rfl 27 aB (aa bj) dK rfl (zI _ _ _) ?_)
    | fail)
   (try simp only[Exit.inBlock,Exit.then])
   refine ck (dT rfl _ _ w.heap.size 27 (gS 1 t 0) (0,0) _ rfl (cm _ _ _ _ _ _ (aa bj)) underlying27 rfl dK) rfl ?_;exact lz rfl (j7 (aa aq) (ax _) _) ⟨aI 1 t 0 ⟨#[]⟩ [],rfl,pu _ _ _ _,sK (by omega) (by omega) (aa sq) (by decide)⟩ ((aa H3).setRow bo _)
 ·rw[ac gy]
  have e39:((nx s i:Int)==39)=false:=bn
  by_cases ip:nx s i=40
  ·rw[af ip]
   have e40:((nx s i:Int)==40)=true:=bt;rw[ip] at HN;clear lP fY oT vH gy ip e39 e40 xH dR;generalize sk s i=k at *;rcases RP with ⟨er,a1⟩ | ⟨q,a1⟩
   ·go_enter func188,ntmps188
    go_wp2_with fail;refine(aa HN).mono ?_;rintro e w1 ⟨rfl,hb1,hR1⟩;have bf:=ab ((aa aD).trans hb1);have bP:=ab ((aa ao).but hb1 hzG);have H1:=ab hR1;clear hb1 hR1;go_wp2_with (refine(aa mQ _ (aa H1) (aa bP)).mono ?_;intro e w3 hP;obtain⟨hb3,rfl⟩:=j9 hP rfl;clear hP;have aq:=ab ((aa bf).trans hb3);clear hb3;unfold aC);exact⟨rfl,fQ rfl (aa aq) rfl⟩
   ·go_enter func188,ntmps188
    go_wp2_with fail;refine(aa HN).mono ?_;rintro e w1 ⟨rfl,hb1,hR1⟩;have bf:=ab ((aa aD).trans hb1);have dy:=ab (dS hb1 (aa ei) bo);have bP:=ab ((aa ao).but hb1 hzG);have H1:=ab hR1;have gW:w.heap.size+1≤w1.heap.size:=(bC.1 (aa dy)).1;clear hb1 hR1;go_wp2_with fail;refine(aa mQ _ (aa H1) (aa bP)).mono ?_;intro e w3 hP;obtain⟨hb3,⟨U,rfl,hU,hL⟩,hR3⟩:=jB hP rfl;have aq:=ab ((aa bf).trans hb3);have bj:=ab (dS hb3 (aa dy) bo);have H3:=ab hR3;have HU:=ab (And.intro hU hL);clear hP hb3 hR3 hU hL;unfold pv;go_wp2_with (first
     | (refine aX rfl 27 _ _ rfl w.heap.size (ai U) rfl rfl 27 aB (aa bj) dK rfl (ik _) ?_)
     | fail)
    (try simp only[Exit.inBlock,Exit.then])
    refine ck (dT rfl _ _ w.heap.size 27 (ai U) (0,0) _ rfl (cm _ _ _ _ _ _ (aa bj)) underlying27 rfl dK) rfl ?_;exact lz rfl (j7 (aa aq) (ax _) _) ⟨U,rfl,(aa HU).1,((aa HU).2.setRow (by omega) _).mono (by omega)⟩ ((aa H3).setRow bo _)
  ·rw[ac ip]
   have e40:((nx s i:Int)==40)=false:=bn;clear vH mQ;have bp:∀(K b:Nat),(K=23∧b=64)∨(K=24∧b=42)→nx s i=b→Calls prog 188 #[.pointer (some ⟨z,0,none⟩)] w fun e w'=>fZ (fv w.heap.size) z s o w (bO (gR s (sk s i+1)) fun t e=>.ok (aI (K:Int) ⟨#[]⟩ 0 t [],e)) e w':=by
    intro K b hKb hnx;have au:=aa dR (by omega)
    rw[hnx] at HN;have qI:=ab (fun w h=>aa fY w (by omega) h)
    clear lP oT gy ip e39 e40 xH dR hnx fY;generalize sk s i=k at *;obtain⟨R,hq⟩:∃R,gR s (k+1)=R:=⟨_,rfl⟩;have aS:=ab hq;rw[hq] at qI ⊢;clear hq;rcases R with ⟨er,a1⟩ | ⟨t,a1⟩
    ·rw[jA]
     rcases hKb with ⟨rfl,rfl⟩ | ⟨rfl,rfl⟩ <;> (
      go_enter func188,ntmps188;go_wp2_with fail;refine(aa HN).mono ?_;rintro e w1 ⟨rfl,hb1,hR1⟩;have bf:=ab ((aa aD).trans hb1);have H1:=ab (hR1.set1 (k+1));have aF:=ab ((aa bf).setCell 1 (.int .i64 ((k+1:Nat):Int)));have c1:=hR1.c1;have fz:=hR1.fz 1;clear hb1 hR1;go_wp2_with (refine(aa qI _ (aa H1)).mono ?_;intro e w3 hP;obtain⟨hb3,rfl⟩:=j9 hP rfl;clear hP;have aq:=ab ((aa aF).trans hb3);clear hb3;unfold aC);exact⟨rfl,fQ rfl (aa aq) rfl⟩)
    ·rw[dE]
     have sq:=ab (Gj hs (aa aS));rcases hKb with ⟨rfl,rfl⟩ | ⟨rfl,rfl⟩ <;> (
      go_enter func188,ntmps188;go_wp2_with fail;refine(aa HN).mono ?_;rintro e w1 ⟨rfl,hb1,hR1⟩;have bf:=ab ((aa aD).trans hb1);have dy:=ab (dS (hb1.trans ((But.refl z w1).setCell 1 (.int .i64 ((k+1:Nat):Int)))) (aa ei) bo);have H1:=ab (hR1.set1 (k+1));have aF:=ab ((aa bf).setCell 1 (.int .i64 ((k+1:Nat):Int)));have c1:=hR1.c1;have fz:=hR1.fz 1;clear hb1 hR1;go_wp2_with fail;refine(aa qI _ (aa H1)).mono ?_;intro e w3 hP;obtain⟨hb3,hv,hR3⟩:=jB hP rfl;unfold lD at hv;subst hv;have aq:=ab ((aa aF).trans hb3);have bj:=ab (dS hb3 (aa dy) bo);have H3:=ab hR3;clear hP hb3 hR3 c1 fz
      first
       | (
         go_wp2_with (first
         | (refine aX rfl 27 _ _ rfl w.heap.size (nmO 23 t) rfl rfl 27 aB (aa bj) dK rfl (Ee _ _) ?_)
         | fail)
         (try simp only[Exit.inBlock,Exit.then])
         refine ck (dT rfl _ _ w.heap.size 27 (nmO 23 t) (0,0) _ rfl (cm _ _ _ _ _ _ (aa bj)) underlying27 rfl dK) rfl ?_;exact lz rfl (j7 (aa aq) (ax _) _) ⟨aI 23 ⟨#[]⟩ 0 t [],rfl,pu _ _ _ _,sK (by omega) (by omega) (by decide) (aa sq)⟩ ((aa H3).setRow bo _))
       | (
         go_wp2_with (first
         | (refine aX rfl 27 _ _ rfl w.heap.size (nmO 24 t) rfl rfl 27 aB (aa bj) dK rfl (Ee _ _) ?_)
         | fail)
         (try simp only[Exit.inBlock,Exit.then])
         refine ck (dT rfl _ _ w.heap.size 27 (nmO 24 t) (0,0) _ rfl (cm _ _ _ _ _ _ (aa bj)) underlying27 rfl dK) rfl ?_;exact lz rfl (j7 (aa aq) (ax _) _) ⟨aI 24 ⟨#[]⟩ 0 t [],rfl,pu _ _ _ _,sK (by omega) (by omega) (by decide) (aa sq)⟩ ((aa H3).setRow bo _)))
   by_cases h64:nx s i=64
   ·rw[af h64]
    exact bp 23 64 (.inl ⟨rfl,rfl⟩) h64
   ·rw[ac h64]
    by_cases h42:nx s i=42
    ·rw[af h42]
     exact bp 24 42 (.inr ⟨rfl,rfl⟩) h42
    ·rw[ac h42]
     have e64:((nx s i:Int)==64)=false:=bn;have e42:((nx s i:Int)==42)=false:=bn;clear bp fY gy ip h64 h42 dR
     cases hl:di (nx s i)
     ·rw[hl] at lP
      rw[ac (by decide)]
      clear hl xH oT;generalize nx s i=b at *;generalize sk s i=k at *;go_enter func188,ntmps188;go_wp2_with fail;refine(aa HN).mono ?_;rintro e w1 ⟨rfl,hb1,hR1⟩;have bf:=ab ((aa aD).trans hb1);have fw:=ab (uq w1 hR1);clear hb1 hR1;go_wp2_with fail;refine(aa lP _).mono ?_;rintro e w1 ⟨rfl,rfl⟩;go_wp2_with (refine(aa fw).mono ?_;rintro e w ⟨rfl,rfl⟩;unfold aC);exact⟨rfl,fQ rfl (aa bf) rfl⟩
     ·have HWO2:=ab (fun w h1 h2=>aa oT w (xH▸hl) h1 h2)
      rw[hl] at lP;rw[af rfl];clear hl xH oT;generalize nx s i=b at *;generalize sk s i=k at *;rcases RW with ⟨er,a1⟩ | ⟨q,a1⟩
      ·go_enter func188,ntmps188
       go_wp2_with fail;refine(aa HN).mono ?_;rintro e w1 ⟨rfl,hb1,hR1⟩;have bf:=ab ((aa aD).trans hb1);have bP:=ab ((aa ao).but hb1 hzG);have H1:=ab hR1;clear hb1 hR1;go_wp2_with fail;refine(aa lP _).mono ?_;rintro e w1 ⟨rfl,rfl⟩;go_wp2_with (refine(aa HWO2 _ (aa H1) (aa bP)).mono ?_;intro e w3 hP;obtain⟨hb3,rfl⟩:=j9 hP rfl;clear hP;have aq:=ab ((aa bf).trans hb3);clear hb3;unfold aC);exact⟨rfl,fQ rfl (aa aq) rfl⟩
      ·go_enter func188,ntmps188
       go_wp2_with fail;refine(aa HN).mono ?_;rintro e w1 ⟨rfl,hb1,hR1⟩;have bf:=ab ((aa aD).trans hb1);have dy:=ab (dS hb1 (aa ei) bo);have bP:=ab ((aa ao).but hb1 hzG);have H1:=ab hR1;have gW:w.heap.size+1≤w1.heap.size:=(bC.1 (aa dy)).1;clear hb1 hR1;go_wp2_with fail;refine(aa lP _).mono ?_;rintro e w1 ⟨rfl,rfl⟩;go_wp2_with fail;refine(aa HWO2 _ (aa H1) (aa bP)).mono ?_;intro e w3 hP;obtain⟨hb3,⟨U,rfl,hU,hL⟩,hR3⟩:=jB hP rfl;have aq:=ab ((aa bf).trans hb3);have bj:=ab (dS hb3 (aa dy) bo);have H3:=ab hR3;have HU:=ab (And.intro hU hL);clear hP hb3 hR3 hU hL;unfold pv;go_wp2_with (first
        | (refine aX rfl 27 _ _ rfl w.heap.size (ai U) rfl rfl 27 aB (aa bj) dK rfl (ik _) ?_)
        | fail)
       (try simp only[Exit.inBlock,Exit.then])
       refine ck (dT rfl _ _ w.heap.size 27 (ai U) (0,0) _ rfl (cm _ _ _ _ _ _ (aa bj)) underlying27 rfl dK) rfl ?_;exact lz rfl (j7 (aa aq) (ax _) _) ⟨U,rfl,(aa HU).1,((aa HU).2.setRow (by omega) _).mono (by omega)⟩ ((aa H3).setRow bo _)
open Go
section
variable {P:Program} {ops:Array Oper} {Q:Exit→Act→World→Prop} {S:World→Prop} {n:Nat}
def kh (P:Program) (ops:Array Oper) (Q:Exit→Act→World→Prop) (S:World→Prop) (n:Nat):Nat→Array Bool→Act→World→Prop
 | 0,listed,a,w=>Region.ready .any ops listed=[]∧Q .normal a w
 | f+1,listed,a,w=>(Region.ready .any ops listed=[]→Q .normal a w)∧
  ∀i ∈ Region.ready .any ops listed,wpOp P ops Q i (fun a' w'=>(i≠n→S w')∧kh P ops Q S n f (listed.setIfInBounds i true) a' w') a w
theorem kh.any:∀(f:Nat) (listed:Array Bool) (a:Act) (w:World),kh P ops Q S n f listed a w→wpAny P .any ops Q f listed a w
 | 0,_,_,_,h=>h
 | f+1,_,_,_,h=>⟨h.1,fun i hi=>wpOp_mono (fun a' w' k=>kh.any f _ a' w' k.2) (h.2 i hi)⟩
structure Sink (ops:Array Oper) (n:Nat):Prop where
 sel:Region.noSelect ops=true
 sink:Region.sinkB .any ops n=true
 chain:Region.chainB .any ops n=true
 size:ops.size=n+1
abbrev mF (ops:Array Oper) (n:Nat) (listed:Array Bool):Prop:=HeadInv .any ops n listed
theorem Kg:mF ops n (Array.replicate ops.size false):=
 ⟨by simp,fun j oj _ h=>(by rw[getD_replicate_false] at h;cases h),fun t _ ht=>(by simp[ht])⟩
theorem firstE {i:Nat} {oi:Oper} {v:Value} (F:Sink ops n) (hi:ops[i]? =some oi) (mL:i < n) (hQ:∀c a w,Q (.panic c) (a.put oi.dst v) w→Q (.panic c) a w):
  ∀(f:Nat) (listed:Array Bool) (a:Act) (w:World),mF ops n listed→
   (∀j oj,ops[j]? =some oj→j≠i→listed.getD j true=false→(∀e ∈ oj.after,Region.binds .any e=true→e.on≠i)→oi.apart ops oj=true)→
   i ∈ Region.ready .any ops listed→YieldsIf P ops S oi v a→S w→
   kh P ops Q S n f (listed.setIfInBounds i true) (a.put oi.dst v) w→kh P ops Q S n (f+1) listed a w:=by
 have hsel:=Region.noSelect_spec F.sel;intro f
 induction f with
 | zero=>
  intro listed a w _ _ hr hy hS H;refine⟨fun h=>absurd hr (by rw[h];exact ek),fun j hj=> ?_⟩
  by_cases e:j=i
  ·subst e
   exact hy.wpOp hi hS ⟨fun _=>hS,H⟩
  ·exact absurd (ready_mono hj e) (by rw[H.1];exact ek)
 | succ f ih=>
  intro listed a w inv Hc hr hy hS H;refine⟨fun h=>absurd hr (by rw[h];exact ek),fun j hj=> ?_⟩
  by_cases e:j=i
  ·subst e
   exact hy.wpOp hi hS ⟨fun _=>hS,H⟩
  ·obtain⟨hju,oj,hoj,jW⟩:=nZ.1 hj
   have hiu:=(nZ.1 hr).1;have hjl:j < ops.size:=(bC.1 hoj).1;have hjn:j≠n:=fun x=>tail_waits F.sink F.chain (by rw[F.size];omega) inv (n - i) i rfl mL hiu j (by omega) hj
   have hjn':j < n:=by have:=F.size;omega
   have hno:∀e ∈ oj.after,Region.binds .any e=true→e.on≠i:=fun e he hb x=>by
    have h1:=jW e he hb;rw[x,getD_both hiu] at h1
    cases h1
   have h2:=wpOp_putIf hoj (Hc j oj hoj e hju hno) (fun cs b=>hsel i oi cs b hi) (fun cs b=>hsel j oj cs b hoj) hQ hy (H.2 j (ready_mono hj e))
   refine wpOp_mono (fun a' w' h3=> ?_) h2
   obtain⟨hy',hS',h4⟩:=h3;refine⟨fun _=>hS' hjn,ih (listed.setIfInBounds j true) a' w' (inv.set hj hjn') (fun k ok hk hki hun jZ=> ?_) (ready_mono hr (Ne.symm e)) hy' (hS' hjn) ?_⟩
   ·refine Hc k ok hk hki ?_ jZ
    by_cases x:j=k
    ·rw[←x];exact hju
    ·rw[getD_set_ne true x] at hun;exact hun
   ·rw[Array.setIfInBounds_comm _ _ e];exact h4
theorem Cy {i:Nat} {oi:Oper} {v:Value} {f:Nat} {listed:Array Bool} {a:Act} {w:World} (F:Sink ops n) (hi:ops[i]? =some oi) (hf:Region.free .any ops listed i=true)
  (hr:(Region.ready .any ops listed).contains i=true) (mL:decide (i < n)=true) (hQ:∀c a w,Q (.panic c) (a.put oi.dst v) w→Q (.panic c) a w) (hS:S w) (hy:YieldsIf P ops S oi v a)
  (h:mF ops n (listed.setIfInBounds i true)→kh P ops Q S n f (listed.setIfInBounds i true) (a.put oi.dst v) w):mF ops n listed→kh P ops Q S n (f+1) listed a w:=fun inv=>
 have hr':i ∈ Region.ready .any ops listed:=by simpa using hr
 firstE F hi (mG mL) hQ f listed a w inv (Region.free_spec hi hf) hr' hy hS (h (inv.set hr' (mG mL)))
theorem stepE {i:Nat} {o:Oper} {f:Nat} {listed:Array Bool} {a:Act} {w:World} (hr:Region.ready .any ops listed=[i]) (hi:ops[i]? =some o) (mL:decide (i < n)=true)
  (h:∀K:Act→World→Prop,(∀a' w',S w'→(mF ops n (listed.setIfInBounds i true)→kh P ops Q S n f (listed.setIfInBounds i true) a' w')→K a' w')→
   if Region.wanted o (yielded ops a.tmps)=true then Oper.wp P o a w K Q else K (a.put o.dst undef) w):mF ops n listed→kh P ops Q S n (f+1) listed a w:=fun inv=>
 ⟨fun h0=>absurd (hr▸h0) (by simp),fun j hj=>by
  have hj':j=i:=by rw[hr] at hj;simpa using hj
  subst hj';exact wpOp_step hi fun K hK=>h K fun a' w' hS hA=>hK a' w' ⟨fun _=>hS,hA (inv.set hj (mG mL))⟩⟩
theorem g5 {o:Oper} {f:Nat} {listed:Array Bool} {a:Act} {w:World} (hr:Region.ready .any ops listed=[n]) (hi:ops[n]? =some o) (hd:Region.ready .any ops (listed.setIfInBounds n true)=[])
  (h:∀K:Act→World→Prop,(∀a' w',Q .normal a' w'→K a' w')→
   if Region.wanted o (yielded ops a.tmps)=true then Oper.wp P o a w K Q else K (a.put o.dst undef) w):mF ops n listed→kh P ops Q S n (f+1) listed a w:=fun _=>
 ⟨fun h0=>absurd (hr▸h0) (by simp),fun j hj=>by
  have hj':j=n:=by rw[hr] at hj;simpa using hj
  subst hj';refine wpOp_step hi fun K hK=>h K fun a' w' hq=>hK a' w' ⟨fun x=>absurd rfl x, ?_⟩
  cases f with
  | zero=>exact⟨hd,hq⟩
  | succ f=>exact⟨fun _=>hq,by rw[hd];exact fun _ h=>absurd h ek⟩⟩
theorem aK {f:Nat} {listed:Array Bool} {a:Act} {w:World} (F:Sink ops n) (i:Nat) {oi:Oper} {v:Value} {S':World→Prop} (H:RowKit.Hid (S=S')) (hS:S w)
  (h:mF ops n (listed.setIfInBounds i true)→kh P ops Q S n f (listed.setIfInBounds i true) (a.put oi.dst v) w)
  (hi:ops[i]? =some oi:=by rfl) (hf:Region.free .any ops listed i=true:=by kernel_rfl) (hr:(Region.ready .any ops listed).contains i=true:=by kernel_rfl) (mL:decide (i < n)=true:=by rfl)
  (hw:Region.wanted oi (yielded ops a.tmps)=true:=by rfl)
  (hy:∀w,S' w→(execOp a.eval oi).run P w=.ok (.value v) w:=by intro w hSw;(try dsimp only at hSw);go_split_ands;(go_simp <;> (try with_reducible rfl)))
  (hQ:∀c a w,Q (.panic c) (a.put oi.dst v) w→Q (.panic c) a w:=by exact fun _ _ _ h=>h):mF ops n listed→kh P ops Q S n (f+1) listed a w:=
 Cy F hi hf hr mL hQ hS (Or.inl ⟨hw,fun w h=>hy w (by rw[show S=S' from H] at h;exact h)⟩) h
theorem cg (i:Nat) {o:Oper} {f:Nat} {listed:Array Bool} {a:Act} {w:World}
  (h:∀K:Act→World→Prop,(∀a' w',S w'→(mF ops n (listed.setIfInBounds i true)→kh P ops Q S n f (listed.setIfInBounds i true) a' w')→K a' w')→
   if Region.wanted o (yielded ops a.tmps)=true then Oper.wp P o a w K Q else K (a.put o.dst undef) w)
  (hr:Region.ready .any ops listed=[i]:=by kernel_rfl) (hi:ops[i]? =some o:=by rfl) (mL:decide (i < n)=true:=by rfl):mF ops n listed→kh P ops Q S n (f+1) listed a w:=
 stepE hr hi mL h
theorem startE {id:Nat} {a:Act} {w:World} (hm:P.follows .mixedOrders=true) (n:Nat) (S:World→Prop) (F:Sink ops n) (h:Sink ops n→mF ops n (Array.replicate ops.size false)→kh P ops Q S n ops.size (Array.replicate ops.size false) a w.drew):(Code.region id ops true).wp P Q a w:=
 wp_region_any hm (kh.any _ _ _ _ (h F Kg))
theorem gZ {id:Nat} {a:Act} {w:World} (n:Nat) (S:World→Prop) (h:Sink ops n→mF ops n (Array.replicate ops.size false)→kh P ops Q S n ops.size (Array.replicate ops.size false) a w.drew)
  (hm:P.follows .mixedOrders=true:=by kernel_rfl) (h1:Region.noSelect ops=true:=by kernel_rfl) (h2:Region.sinkB .any ops n=true:=by kernel_rfl) (h3:Region.chainB .any ops n=true:=by kernel_rfl) (h4:ops.size=n+1:=by rfl):(Code.region id ops true).wp P Q a w:=
 startE hm n S ⟨h1,h2,h3,h4⟩ h
end
end Go.Proofs.YtlmnjbipfacniaaGreatDoor
