/- The reader of lines: a piece that begins with a name. The re -/
import Derived.Test.YtlmnjbipfacniaaGreatDoorSyGM
import Derived.Test.YtlmnjbipfacniaaGreatDoorLxWalkBM
set_option maxRecDepth 100000
set_option maxHeartbeats 8000000
namespace Go.Proofs.YtlmnjbipfacniaaGreatDoor
open Go.Proofs.Tryz
open Go.RowKit
theorem KidsX.step {B:Nat} {w w':World} {v:Value} {L l:List PT} (h:KidsX B w v L l) (hs:w.heap.size≤w'.heap.size) (hb:∀i,B≤i→i < w.heap.size→w'.heap[i]? =w.heap[i]?):KidsX B w' v L l:=
 ⟨h.row.same fun k hk=>hb k (h.row.low hk).1 (h.row.low hk).2,h.can,fun x hx=>(h.lies x hx).step hs fun i h1 h2 _=>hb i h1 h2⟩
theorem KidsX.cell {B g k:Nat} {w:World} {v u:Value} {L l:List PT} (h:KidsX B w v L l) (hg:g < B):KidsX B (w.setCell ⟨g,k,none⟩ u) v L l:=h.step (by rw[nV];exact ax _) fun i h1 _=>dm w ⟨g,k,none⟩ i u (by show i≠g;omega)
theorem Ld {w:World} {B g:Nat} {U:PT} (h:w.heap[g]? =some (.cells (ai U) 24 (0,0))) (hB:B≤g):cc w B 24 5 eO (.slice (some ⟨g,0,none⟩) 1 1) [U]:=
 ⟨rfl,.inr ⟨g,1,ai U,rfl,hB,h,ax _,by unfold maxLen;decide,rfl,rfl⟩⟩
theorem KidsX.one {B C:Nat} {w:World} {U:PT} (h:bd C w U) (hc:B≤C) (hw:B≤w.heap.size):KidsX B (w.alloc (.cells (ai U) 24)) (.slice (some ⟨w.heap.size,0,none⟩) 1 1) [U] [U.can]:=
 ⟨Ld (aw rfl) hw,rfl,fun x hx=>by
  rw[fE] at hx;subst hx;exact h.newrow hc _⟩
theorem Syr.cell {C:SyC} {w v:World} {l l0:List Tk} {o o0 g k:Nat} {u:Value} (h:Syr C w l o) (h0:Syr C v l0 o0) (hg:v.heap.size≤g):Syr C (w.setCell ⟨g,k,none⟩ u) l o:=
 h.same (dm w ⟨g,k,none⟩ _ u (by have:=h0.lt;show C.z≠g;omega)) (dm w ⟨g,k,none⟩ _ u (by have:=h0.gl;show C.g≠g;omega)) (dm w ⟨g,k,none⟩ _ u (by have:=h0.map.lt;show C.bb≠g;omega))
section
variable {E:Nat} {p:Option Lv} {l r:List Tk} {t:ByteArray}
theorem Nf {e:Int × Nat} (h:dO E l=.error e):kj E p l=.error e:=by unfold kj;rw[h];rfl
theorem LE (h:dO E l=.ok (t,r)) (h1:aM (ak E 0 r) (ah 60)=true):kj E p l=aR (eV E p r.tail) fun x q=>aR (ee E (ah 62) q) fun _ m=>.ok (aI 4 ByteArray.empty 0 t [x],m):=by unfold kj;rw[h,aT,af h1]
theorem LF (h:dO E l=.ok (t,r)) (h1:aM (ak E 0 r) (ah 60)=false) (h2:aM (ak E 0 r) (ah 40)=true):kj E p l=aR (mE E p r.tail) fun o q=>.ok (aI 6 ByteArray.empty 0 t o,q):=by unfold kj;rw[h,aT,ac (by rw[h1];decide),af h2]
theorem LD (h:dO E l=.ok (t,r)) (h1:aM (ak E 0 r) (ah 60)=false) (h2:aM (ak E 0 r) (ah 40)=false):kj E p l=.ok (aI 3 ByteArray.empty 0 t [],r):=by unfold kj;rw[h,aT,ac (by rw[h1];decide),ac (by rw[h2];decide)]
end
structure XBox (C:SyC) (o:Nat) (w W:World) (b:Nat) (r:List Tk) (A:Array Value):Prop where
 but:But C.z w W
 rdr:Syr C W r o
 res:W.heap[w.heap.size]? =some (.cells aB 24 (0,0))
 box:W.heap[b]? =some (.cells A 24 (0,0))
 low:w.heap.size < b
theorem XBox.next {C:SyC} {o b:Nat} {w W W':World} {r r':List Tk} {A:Array Value} (h:XBox C o w W b r A) (hz:C.z < w.heap.size) (hb:But C.z W W') (hR:Syr C W' r' o):XBox C o w W' b r' A:=
 ⟨h.but.trans hb,hR,hb.row (by omega) h.res,hb.row (by have:=h.low;omega) h.box,h.low⟩
theorem XBox.below {C:SyC} {o b:Nat} {w W W':World} {r:List Tk} {A:Array Value} (h:XBox C o w W b r A) (hb:Below W.heap.size W W'):XBox C o w W' b r A:=
 ⟨h.but.trans (But.of_below hb),h.rdr.below hb,am h.res hb,am h.box hb,h.low⟩
theorem XBox.set {C:SyC} {o b k:Nat} {w W:World} {r l0:List Tk} {o0:Nat} {A:Array Value} {u:Value} (h:XBox C o w W b r A) (h0:Syr C w l0 o0):XBox C o w (W.setCell ⟨b,k,none⟩ u) b r (A.setIfInBounds k u):=
 ⟨zq h.but (by have:=h.low;omega) _ _,h.rdr.cell h0 (by have:=h.low;omega),(dm W ⟨b,k,none⟩ w.heap.size u (by have:=h.low;show w.heap.size≠b;omega)).trans h.res,fK W b k _ _ u h.box,h.low⟩
theorem IU {d:Nat} (HX:nN 136 d (fun E=>eV E (bV E d))):nN 186 d (fun E=>kj E (bV E d)):=by
 intro C l w hR hE;have aZ:Below w.heap.size w (w.alloc (.cells aB 24)):=ba _;have HR:=ab hR;have HE:=ab hE;have aD:=ab aZ;have hzl:=hR.lt;have ot:=ab (vP _ (hR.below aZ));have eE:=ab (fun t r h=>oD (t:=t) (r:=r) hR h)
 have so:Hid (∀l w,Syr C w l (400 - d)→SyEnv C w→Calls prog 136 #[.pointer (some ⟨C.z,0,none⟩)] w fun e w'=>fV (fv w.heap.size) C (400 - d) w (eV C.E (bV C.E d) l) e w'):=ab (fun l w h k=>HX C l w h k)
 have HAC:=ab (fun l w h k=>JP HX C l w h k)
 show Calls _ _ _ _ fun e w'=>fV (fv w.heap.size) C (400 - d) w (kj C.E (bV C.E d) l) e w'
 obtain⟨RR,bM⟩:∃RR,RR=kj C.E (bV C.E d) l:=⟨_,rfl⟩;rw[←bM];have HQ:=ab bM;clear hR hE aZ HX bM;generalize bV C.E d=p at *;generalize 400 - d=o at *;go_enter func186,ntmps186;go_wp2_with fail;refine(aa ot).mono ?_;intro e w2 hp
 cases hq:dO C.E l with
 | error x=>
  obtain⟨er,i⟩:=x;obtain⟨hb2,rfl⟩:=dB hp hq;have aF:=ab ((But.of_below (aa aD)).trans hb2);have aS:Hid (RR=.error (er,i)):=ab (by rw[aa HQ,Nf hq])
  clear hp hb2 hq;unfold aC;go_wp2_with fail;exact⟨rfl,fH (aa aS) (aa aF) rfl⟩
 | ok x=>
  obtain⟨t,r⟩:=x;obtain⟨hb2,rfl,db⟩:=dC hp hq;have pV:=aa eE t r hq;have HQN:=ab hq;have cN:=hb2.row (show w.heap.size≠C.z by omega) (Co (w:=w))
  have hwl2:w.heap.size < w2.heap.size:=(bC.1 cN).1;have bz:Below w2.heap.size w2 (w2.alloc (.cells #[.int .i64 3,.string ⟨#[]⟩,.int .i64 0,.string t,.slice none 0 0] 24)):=ba _;have bj:=ab (show XBox C o w (w2.alloc (.cells #[.int .i64 3,.string ⟨#[]⟩,.int .i64 0,.string t,.slice none 0 0] 24)) w2.heap.size r #[.int .i64 3,.string ⟨#[]⟩,.int .i64 0,.string t,.slice none 0 0] from
   ⟨((But.of_below (aa aD)).trans hb2).trans (But.of_below bz),db.below bz,am cN bz,aw rfl,hwl2⟩)
  have uZ:(w2.alloc (.cells #[.int .i64 3,.string ⟨#[]⟩,.int .i64 0,.string t,.slice none 0 0] 24)).heap.size=w2.heap.size+1:=eu _ _;have AO:=ab uZ;have oX:=ab (fun w h hs=>pq (C:=C) (l:=r) (o:=o) (ah 60) w h hs)
  have rc:=ab (fun w h hs=>pr (C:=C) (l:=r) (o:=o) (ah 60) w h hs)
  have HU1:=ab (fun w h hs=>pq (C:=C) (l:=r) (o:=o) (ah 40) w h hs)
  have HU0:=ab (fun w h hs=>pr (C:=C) (l:=r) (o:=o) (ah 40) w h hs)
  clear hp hb2 hq db cN bz eE ot uZ;unfold ah at oX rc HU1 HU0;go_wp2_with fail
  cases h1:aM (ak C.E 0 r) ⟨#[60]⟩
  ·cases h2:aM (ak C.E 0 r) ⟨#[40]⟩
   ·have aS:Hid (RR=.ok (aI 3 ByteArray.empty 0 t [],r)):=ab (by rw[aa HQ];exact LD (aa HQN) h1 h2)
    refine(aa rc _ (aa bj).rdr h1).mono ?_;rintro e w4 ⟨rfl,hb4⟩;have bZ:=ab ((aa bj).below hb4);clear hb4 h1;go_wp2_with fail;refine(aa HU0 _ (aa bZ).rdr h2).mono ?_;rintro e w5 ⟨rfl,hb5⟩;have dt:=ab ((aa bZ).below hb5);have sB:Hid ((aI 3 ⟨#[]⟩ 0 t []).can=aI 3 ByteArray.empty 0 t []∧bd (w.heap.size+1) w5 (aI 3 ⟨#[]⟩ 0 t [])):=ab (⟨pu _ _ _ _,sK ⟨by decide,by decide⟩ ⟨by decide,by decide⟩ (by decide) (by omega)⟩)
    have kQ:Hid (ai (aI 3 ⟨#[]⟩ 0 t [])= #[.int .i64 3,.string ⟨#[]⟩,.int .i64 0,.string t,.slice none 0 0]∧pv (aI 3 ⟨#[]⟩ 0 t [])=.agg #[.int .i64 3,.string ⟨#[]⟩,.int .i64 0,.string t,.slice none 0 0]):=ab (⟨rfl,rfl⟩);clear hb5 h2;generalize aI 3 ⟨#[]⟩ 0 t []=U at *;obtain⟨s0,s1,s2,s3,s4⟩:=dD (show w5.heap[w2.heap.size]? =some (.cells #[.int .i64 3,.string ⟨#[]⟩,.int .i64 0,.string t,.slice none 0 0] 24 (0,0)) from (aa dt).box);go_wp2_with (first
     | (refine aX rfl 24 _ _ rfl w.heap.size #[.int .i64 3,.string ⟨#[]⟩,.int .i64 0,.string t,.slice none 0 0] rfl rfl 24 aB (aa dt).res eT rfl (by simp[Value.oneCell']) ?_)
     | fail)
    (try simp only[Exit.inBlock,Exit.then])
    refine ck (dT rfl _ _ w.heap.size 24 #[.int .i64 3,.string ⟨#[]⟩,.int .i64 0,.string t,.slice none 0 0] (0,0) _ rfl (cm _ _ _ _ _ _ (aa dt).res) underlying24 rfl eT) rfl ?_;exact nI (aa aS) (j7 (aa dt).but (ax _) _) ⟨U,by rw[(aa kQ).2],(aa sB).1,((aa sB).2.setRow (by omega) _).mono (by omega)⟩ ((aa dt).rdr.row (aa HR) (ax _) _)
   ·have aS:Hid (RR=aR (mE C.E p r.tail) fun o q=>.ok (aI 6 ByteArray.empty 0 t o,q)):=ab (by rw[aa HQ];exact LF (aa HQN) h1 h2)
    refine(aa rc _ (aa bj).rdr h1).mono ?_;rintro e w4 ⟨rfl,hb4⟩;have bZ:=ab ((aa bj).below hb4);have HSZ4:Hid (w2.heap.size+1≤w4.heap.size):=ab (by rw[←aa AO];exact hb4.size)
    clear hb4 h1;go_wp2_with fail;refine(aa HU1 _ (aa bZ).rdr h2).mono ?_;rintro e w5 ⟨rfl,hb5,hR5⟩;have go:=(aa bZ).next hzl hb5 hR5;obtain⟨v0,v1,v2,v3,v4⟩:=dD go.box;have vf0:=cT w5 w2.heap.size 0 _ _ go.box;have gK:=ab (go.set (k:=0) (u:=.int .i64 6) (aa HR));have yX:Hid (w2.heap.size+1≤w5.heap.size):=ab (by have:=hb5.size;have:=aa HSZ4;omega)
    clear hb5 hR5 go h2;have mr:=ab (aa HAC r.tail _ (aa gK).rdr ((aa HE).but (aa gK).but));have hs6:(w5.setCell ⟨w2.heap.size,0,none⟩ (.int .i64 6)).heap.size=w5.heap.size:=nV _ _ _;go_wp2_with fail;refine(aa mr).mono ?_;intro e w7 hp
    cases hq:mE C.E p r.tail with
    | error x=>
     obtain⟨er,i⟩:=x;obtain⟨hb7,rfl⟩:=dB hp hq;have kC:=ab ((aa gK).but.trans hb7);have bK:Hid (RR=.error (er,i)):=ab (by rw[aa aS,hq,dn])
     clear hp hb7 hq;unfold aC;go_wp2_with fail;exact⟨rfl,fH (aa bK) (aa kC) rfl⟩
    | ok x=>
     obtain⟨os,q⟩:=x;obtain⟨hb7,⟨kv,L,tJ,hK⟩,hR7⟩:=dC hp hq;rw[hs6] at hK;obtain⟨ka,kc,hkv, -, -⟩:=hK.row.len;generalize L.length=kn at *;subst hkv;subst tJ;have pU:=(aa gK).next hzl hb7 hR7;have vf4:=cT w7 w2.heap.size 4 _ _ pU.box;obtain⟨u0,u1,u2,u3,u4⟩:=dD pU.box;have sp:=ab (pU.set (k:=4) (u:=.slice ka kn kc) (aa HR));obtain⟨U,⟨qK,qL⟩,cE,cS⟩:=xS (k:=6) (nm:=t) (hK.cell (g:=w2.heap.size) (k:=4) (u:=.slice ka kn kc) (by have:=aa yX;omega)) ⟨by decide,by decide⟩ (by omega)
     have bK:Hid (RR=.ok (aI 6 ByteArray.empty 0 t os,q)):=ab (by rw[aa aS,hq,aT])
     have HL8:Hid (U.can=aI 6 ByteArray.empty 0 t os∧bd (w.heap.size+1) (w7.setCell ⟨w2.heap.size,4,none⟩ (.slice ka kn kc)) U):=ab (⟨cE,cS.mono (by have:=aa yX;omega)⟩)
     have kQ:=ab (And.intro qL qK);clear hp hb7 hq hR7 hK pU cE cS qK qL v0 v1 v2 v3 v4 vf0 hs6 mr;go_wp2_with (first
      | (refine aX rfl 24 _ _ rfl w.heap.size #[.int .i64 6,.string ⟨#[]⟩,.int .i64 0,.string t,.slice ka kn kc] rfl rfl 24 aB (aa sp).res eT rfl (by simp[Value.oneCell']) ?_)
      | fail)
     (try simp only[Exit.inBlock,Exit.then])
     refine ck (dT rfl _ _ w.heap.size 24 #[.int .i64 6,.string ⟨#[]⟩,.int .i64 0,.string t,.slice ka kn kc] (0,0) _ rfl (cm _ _ _ _ _ _ (aa sp).res) underlying24 rfl eT) rfl ?_;exact nI (aa bK) (j7 (aa sp).but (ax _) _) ⟨U,by rw[(aa kQ).2],(aa HL8).1,((aa HL8).2.setRow (by omega) _).mono (by omega)⟩ ((aa sp).rdr.row (aa HR) (ax _) _)
  ·have aS:Hid (RR=aR (eV C.E p r.tail) fun x q=>aR (ee C.E (ah 62) q) fun _ m=>.ok (aI 4 ByteArray.empty 0 t [x],m)):=ab (by rw[aa HQ];exact LE (aa HQN) h1)
   refine(aa oX _ (aa bj).rdr h1).mono ?_;rintro e w5 ⟨rfl,hb5,hR5⟩;have go:=(aa bj).next hzl hb5 hR5;obtain⟨v0,v1,v2,v3,v4⟩:=dD go.box;have vf0:=cT w5 w2.heap.size 0 _ _ go.box;have gK:=ab (go.set (k:=0) (u:=.int .i64 4) (aa HR));have yX:Hid (w2.heap.size+1≤w5.heap.size):=ab (by have:=hb5.size;have:=aa AO;omega)
   clear hb5 hR5 go h1;have mr:=ab (aa so r.tail _ (aa gK).rdr ((aa HE).but (aa gK).but));have hs6:(w5.setCell ⟨w2.heap.size,0,none⟩ (.int .i64 4)).heap.size=w5.heap.size:=nV _ _ _;go_wp2_with fail;refine(aa mr).mono ?_;intro e w7 hp
   cases hq:eV C.E p r.tail with
   | error x=>
    obtain⟨er,i⟩:=x;obtain⟨hb7,rfl⟩:=dB hp hq;have kC:=ab ((aa gK).but.trans hb7);have bK:Hid (RR=.error (er,i)):=ab (by rw[aa aS,hq,dn])
    clear hp hb7 hq;unfold aC;go_wp2_with fail;exact⟨rfl,fH (aa bK) (aa kC) rfl⟩
   | ok x=>
    obtain⟨xx,q⟩:=x;obtain⟨hb7,⟨U0,rfl,Hd,CO⟩,hR7⟩:=dC hp hq;rw[hs6] at CO;have hs7:w5.heap.size≤w7.heap.size:=by have:=hb7.size;rw[hs6] at this;exact this
    have vd:Below w7.heap.size w7 (w7.alloc (.cells (ai U0) 24)):=ba _;have hx8:=((aa gK).next hzl hb7 hR7).below vd;have vf4:=cT _ w2.heap.size 4 _ _ hx8.box;obtain⟨u0,u1,u2,u3,u4⟩:=dD hx8.box;have sp:=ab (hx8.set (k:=4) (u:=.slice (some ⟨w7.heap.size,0,none⟩) 1 1) (aa HR));have HK8:=ab ((KidsX.one (B:=w2.heap.size+1) CO (by have:=aa yX;omega) (by have:=aa yX;omega)).cell (g:=w2.heap.size) (k:=4) (u:=.slice (some ⟨w7.heap.size,0,none⟩) 1 1) (by omega))
    rw[Hd] at HK8;have bK:Hid (RR=aR (ee C.E (ah 62) q) fun _ m=>.ok (aI 4 ByteArray.empty 0 t [xx],m)):=ab (by rw[aa aS,hq,aT])
    have HN8:=ab (sJ (ah 62) _ (aa sp).rdr);clear hp hb7 hq hR7 hx8 Hd CO v0 v1 v2 v3 v4 vf0 hs6 mr vd;unfold pv;unfold ai at sp HK8 HN8 u0 u1 u2 u3 u4 vf4;unfold ah at HN8 bK;go_wp2_with fail;refine(aa HN8).mono ?_;intro e w8 hp
    cases hq:ee C.E ⟨#[62]⟩ q with
    | error x=>
     obtain⟨er,i⟩:=x;obtain⟨hb9,rfl⟩:=dB hp hq;have ij:=ab ((aa sp).but.trans hb9);have dJ:Hid (RR=.error (er,i)):=ab (by rw[aa bK,hq,dn])
     clear hp hb9 hq;unfold aC;go_wp2_with fail;exact⟨rfl,fH (aa dJ) (aa ij) rfl⟩
    | ok x=>
     obtain⟨xu,m⟩:=x;obtain⟨hb9,rfl,hR9⟩:=dC hp hq;have n8:=(aa sp).next hzl hb9 hR9;obtain⟨U,⟨qK,qL⟩,cE,cS⟩:=xS (k:=4) (nm:=t) ((aa HK8).but hb9 (by omega)) ⟨by decide,by decide⟩ (by omega)
     have HX9:=ab n8;have dJ:Hid (RR=.ok (aI 4 ByteArray.empty 0 t [xx],m)):=ab (by rw[aa bK,hq,aT])
     have HL8:Hid (U.can=aI 4 ByteArray.empty 0 t [xx]∧bd (w.heap.size+1) w8 U):=ab (⟨cE,cS.mono (by omega)⟩)
     have kQ:=ab (And.intro qL qK);clear hp hb9 hq hR9 n8 cE cS qK qL sp HK8 HN8 u0 u1 u2 u3 u4 vf4;obtain⟨s0,s1,s2,s3,s4⟩:=dD (show w8.heap[w2.heap.size]? =some (.cells #[.int .i64 4,.string ⟨#[]⟩,.int .i64 0,.string t,.slice (some ⟨w7.heap.size,0,none⟩) 1 1] 24 (0,0)) from (aa HX9).box);go_wp2_with (first
      | (refine aX rfl 24 _ _ rfl w.heap.size #[.int .i64 4,.string ⟨#[]⟩,.int .i64 0,.string t,.slice (some ⟨w7.heap.size,0,none⟩) 1 1] rfl rfl 24 aB (aa HX9).res eT rfl (by simp[Value.oneCell']) ?_)
      | fail)
     (try simp only[Exit.inBlock,Exit.then])
     refine ck (dT rfl _ _ w.heap.size 24 #[.int .i64 4,.string ⟨#[]⟩,.int .i64 0,.string t,.slice (some ⟨w7.heap.size,0,none⟩) 1 1] (0,0) _ rfl (cm _ _ _ _ _ _ (aa HX9).res) underlying24 rfl eT) rfl ?_;exact nI (aa dJ) (j7 (aa HX9).but (ax _) _) ⟨U,by rw[(aa kQ).2],(aa HL8).1,((aa HL8).2.setRow (by omega) _).mono (by omega)⟩ ((aa HX9).rdr.row (aa HR) (ax _) _)
open Go.RowKit
theorem A5 {B:Nat} {w:World} {k n:Int} {t nm:ByteArray} (hk:0≤k∧k≤100) (hn:0≤n∧n≤9223372036854775807) (ht:t.size≤65536) (hm:nm.size≤65536):bd B w (aI k t n nm []):=fun X _=>
 ⟨by constructor <;> omega,by unfold maxLen;omega,by constructor <;> omega,by unfold maxLen;omega,by unfold maxLen;decide,ax _,fun h=>absurd h (xG _),fun i=>i.elim0⟩
theorem nuS_sm {E:Nat} {l r:List Tk} {n:Int} (h:lW E l=.ok (n,r)):0≤n∧n≤9223372036854775807:=by
 unfold lW at h;split at h
 ·cases h
 ·split at h
  ·cases h
  ·injection h with h;injection h with h _;omega
structure XRes (C:SyC) (o:Nat) (w W:World) (r:List Tk):Prop where
 but:But C.z w W
 rdr:Syr C W r o
 res:W.heap[w.heap.size]? =some (.cells aB 24 (0,0))
theorem XRes.next {C:SyC} {o o':Nat} {w W W':World} {r r':List Tk} (h:XRes C o w W r) (hz:C.z < w.heap.size) (hb:But C.z W W') (hR:Syr C W' r' o'):XRes C o' w W' r':=⟨h.but.trans hb,hR,hb.row (by omega) h.res⟩
theorem XRes.below {C:SyC} {o:Nat} {w W W':World} {r:List Tk} (h:XRes C o w W r) (hb:Below W.heap.size W W'):XRes C o w W' r:=⟨h.but.trans (But.of_below hb),h.rdr.below hb,am h.res hb⟩
theorem XRes.size {C:SyC} {o:Nat} {w W:World} {r:List Tk} (h:XRes C o w W r):w.heap.size+1≤W.heap.size:=(bC.1 h.res).1
theorem XRes.start {C:SyC} {o:Nat} {w:World} {r:List Tk} (h:Syr C w r o):XRes C o w (w.alloc (.cells aB 24)) r:=⟨(But.refl _ _).alloc _,h.below (ba _),Co⟩
theorem XRes.done {C:SyC} {o o0:Nat} {w W:World} {r r0:List Tk} {RR:Sy PT} {U p:PT} (h:XRes C o w W r) (h0:Syr C w r0 o0) (hq:RR=.ok (p,r)) (hc:U.can=p) (hl:bd (w.heap.size+1) W U) (A:Array Value):fV (fv w.heap.size) C o w RR (.returned (pv U)) (W.setRow w.heap.size A):=
 nI hq (j7 h.but (ax _) _) ⟨U,rfl,hc,(hl.setRow (by omega) _).mono (by omega)⟩ (h.rdr.row h0 (ax _) _)
section
variable {E:Nat} {p:Option Lv} {l r:List Tk}
theorem Lq (h:(ak E 0 l).k=1):fi E p l=kj E p l:=by unfold fi;rw[af h]
theorem MX (h1:(ak E 0 l).k≠1) (h:(ak E 0 l).k=2):fi E p l=aR (lW E l) fun n r=>.ok (aI 2 ByteArray.empty n ByteArray.empty [],r):=by unfold fi;rw[ac h1,af h]
theorem Lr (h1:(ak E 0 l).k≠1) (h2:(ak E 0 l).k≠2) (h:(ak E 0 l).k=3):fi E p l=.ok (aI 1 (ak E 0 l).t 0 ByteArray.empty [],l.tail):=by unfold fi;rw[ac h1,ac h2,af h]
theorem MY (h1:(ak E 0 l).k≠1) (h2:(ak E 0 l).k≠2) (h3:(ak E 0 l).k≠3) (h:aM (ak E 0 l) (ah 36)=true):fi E p l=aR (rJ E p l.tail) fun x r=>.ok (kl 5 [x],r):=by unfold fi;rw[ac h1,ac h2,ac h3,af h]
theorem MW (h1:(ak E 0 l).k≠1) (h2:(ak E 0 l).k≠2) (h3:(ak E 0 l).k≠3) (h:aM (ak E 0 l) (ah 36)=false):fi E p l=aR (ee E (ah 40) l) fun _ r=>aR (eV E p r) fun x q=>aR (ee E (ah 41) q) fun _ m=>.ok (x,m):=by unfold fi;rw[ac h1,ac h2,ac h3,ac (by rw[h];decide)]
end
theorem Dj {d:Nat} (hd:d≤400) (HX:nN 136 d (fun E=>eV E (bV E d))) (jN:∀d',d=d'+1→nN 180 d' (fun E=>fi E (bV E d'))):nN 180 d (fun E=>fi E (bV E d)):=by
 intro C l w hR hE;have HR:=ab hR;have HE:=ab hE;have hzl:=hR.lt;have AM:=ab (XRes.start hR);have gM:=ab (rp _ (aa AM).rdr);have iR:=xn hR 0;have sy:Hid (∀l w,Syr C w l (400 - d)→SyEnv C w→Calls prog 186 #[.pointer (some ⟨C.z,0,none⟩)] w fun e w'=>fV (fv w.heap.size) C (400 - d) w (kj C.E (bV C.E d) l) e w'):=ab (fun l w h k=>IU HX C l w h k)
 have so:Hid (∀l w,Syr C w l (400 - d)→SyEnv C w→Calls prog 136 #[.pointer (some ⟨C.z,0,none⟩)] w fun e w'=>fV (fv w.heap.size) C (400 - d) w (eV C.E (bV C.E d) l) e w'):=ab (fun l w h k=>HX C l w h k)
 show Calls _ _ _ _ fun e w'=>fV (fv w.heap.size) C (400 - d) w (fi C.E (bV C.E d) l) e w'
 obtain⟨RR,bM⟩:∃RR,RR=fi C.E (bV C.E d) l:=⟨_,rfl⟩;rw[←bM];have HQ:=ab bM;obtain⟨t,ht⟩:∃t,t=ak C.E 0 l:=⟨_,rfl⟩;rw[←ht] at gM iR;have nC:=ab ht;have ay:=iR.2.1;clear hE HX bM ht iR;generalize ho:400 - d=o at *;have HO:=ab ho;clear hR ho;unfold jC at gM;have oQ:=fun (W:World)=>(aW W.heap.size W).alloc (ax _) (.cells #[.int .i64 (t.k:Int),.string t.t,.int .i64 (t.a:Int)] 102)
 go_enter func180,ntmps180;go_wp2_with fail;refine(aa gM).mono ?_;rintro e w2 ⟨rfl,hb2⟩;have bj:=ab (((aa AM).below hb2).below (oQ w2));have bq:Hid ((w2.alloc (.cells #[.int .i64 (t.k:Int),.string t.t,.int .i64 (t.a:Int)] 102)).heap[w2.heap.size]? =some (.cells #[.int .i64 (t.k:Int),.string t.t,.int .i64 (t.a:Int)] 102 (0,0))):=ab (aw rfl);have gH:w.heap.size+1≤w2.heap.size:=((aa AM).below hb2).size;have AO:Hid ((w2.alloc (.cells #[.int .i64 (t.k:Int),.string t.t,.int .i64 (t.a:Int)] 102)).heap.size=w2.heap.size+1):=ab (eu _ _);clear hb2 gM AM
 by_cases h1:t.k=1
 ·have q1:((t.k:Int)==1)=true:=bt
  have bQ:Hid (RR=kj C.E (bV C.E d) l):=ab (by rw[aa HQ];exact Lq (by rw[←aa nC];exact h1))
  have HC:=ab (aa sy l _ (aa bj).rdr ((aa HE).but (aa bj).but));clear h1 HQ sy so jN;generalize kj C.E (bV C.E d) l=R1 at *;go_wp2_with fail;refine(aa HC).mono ?_;intro e w4 hp
  cases hq:R1 with
  | error x=>
   obtain⟨er,i⟩:=x;obtain⟨hb4,rfl⟩:=dB hp hq;have dz:=ab ((aa bj).but.trans hb4);have aS:Hid (RR=.error (er,i)):=ab (by rw[aa bQ,hq])
   clear hp hb4 hq;unfold aC;go_wp2_with fail;exact⟨rfl,fH (aa aS) (aa dz) rfl⟩
  | ok x=>
   obtain⟨x,r⟩:=x;obtain⟨hb4,⟨U,rfl,cE,cS⟩,hR4⟩:=dC hp hq;have bZ:=ab ((aa bj).next hzl hb4 hR4);have ii:Hid (U.can=x∧bd (w.heap.size+1) w4 U):=ab (⟨cE,cS.mono (by rw[aa AO];omega)⟩)
   have aS:Hid (RR=.ok (x,r)):=ab (by rw[aa bQ,hq])
   clear hp hb4 hq cE cS hR4 HC;unfold pv;go_wp2_with (first
    | (refine aX rfl 24 _ _ rfl w.heap.size #[.int .i64 U.k,.string U.t,.int .i64 U.n,.string U.nm,.slice U.xa U.len U.cap] rfl rfl 24 aB (aa bZ).res eT rfl (by simp[Value.oneCell']) ?_)
    | fail)
   (try simp only[Exit.inBlock,Exit.then])
   refine ck (dT rfl _ _ w.heap.size 24 #[.int .i64 U.k,.string U.t,.int .i64 U.n,.string U.nm,.slice U.xa U.len U.cap] (0,0) _ rfl (cm _ _ _ _ _ _ (aa bZ).res) underlying24 rfl eT) rfl ?_;exact(aa bZ).done (U:=U) (aa HR) (aa aS) (aa ii).1 (aa ii).2 _
 ·have q1:((t.k:Int)==1)=false:=bn
  by_cases h2:t.k=2
  ·have q2:((t.k:Int)==2)=true:=bt
   have bQ:Hid (RR=aR (lW C.E l) fun n r=>.ok (aI 2 ByteArray.empty n ByteArray.empty [],r)):=ab (by rw[aa HQ];exact MX (by rw[←aa nC];exact h1) (by rw[←aa nC];exact h2))
   have HC:=ab (C8 _ (aa bj).rdr ((aa HE).but (aa bj).but) (by rw[←aa nC];exact h2))
   have vI:=ab (fun n r h=>nuS_sm (E:=C.E) (l:=l) (r:=r) (n:=n) h)
   clear h1 h2 HQ sy so jN;generalize lW C.E l=R1 at *;go_wp2_with fail;refine(aa HC).mono ?_;intro e w4 hp
   cases hq:R1 with
   | error x=>
    obtain⟨er,i⟩:=x;obtain⟨hb4,rfl⟩:=dB hp hq;have dz:=ab ((aa bj).but.trans hb4);have aS:Hid (RR=.error (er,i)):=ab (by rw[aa bQ,hq,dn])
    clear hp hb4 hq;unfold aC;go_wp2_with fail;exact⟨rfl,fH (aa aS) (aa dz) rfl⟩
   | ok x=>
    obtain⟨n,r⟩:=x;obtain⟨hb4,rfl,hR4⟩:=dC hp hq;have hn:=aa vI n r hq;have bZ:=ab ((aa bj).next hzl hb4 hR4);have ii:Hid ((aI 2 ⟨#[]⟩ n ⟨#[]⟩ []).can=aI 2 ByteArray.empty n ByteArray.empty []∧bd (w.heap.size+1) w4 (aI 2 ⟨#[]⟩ n ⟨#[]⟩ [])):=ab (⟨pu _ _ _ _,A5 ⟨by decide,by decide⟩ hn (by decide) (by decide)⟩)
    have aS:Hid (RR=.ok (aI 2 ByteArray.empty n ByteArray.empty [],r)):=ab (by rw[aa bQ,hq,aT])
    clear hp hb4 hq hR4 HC hn vI;go_wp2_with (first
     | (refine aX rfl 24 _ _ rfl w.heap.size #[.int .i64 2,.string ⟨#[]⟩,.int .i64 n,.string ⟨#[]⟩,.slice none 0 0] rfl rfl 24 aB (aa bZ).res eT rfl (by simp[Value.oneCell']) ?_)
     | fail)
    (try simp only[Exit.inBlock,Exit.then])
    refine ck (dT rfl _ _ w.heap.size 24 #[.int .i64 2,.string ⟨#[]⟩,.int .i64 n,.string ⟨#[]⟩,.slice none 0 0] (0,0) _ rfl (cm _ _ _ _ _ _ (aa bZ).res) underlying24 rfl eT) rfl ?_;exact(aa bZ).done (U:=aI 2 ⟨#[]⟩ n ⟨#[]⟩ []) (aa HR) (aa aS) (aa ii).1 (aa ii).2 _
  ·have q2:((t.k:Int)==2)=false:=bn
   by_cases h3:t.k=3
   ·have q3:((t.k:Int)==3)=true:=bt
    have aS:Hid (RR=.ok (aI 1 t.t 0 ByteArray.empty [],l.tail)):=ab (by rw[aa HQ,aa nC];exact Lr (by rw[←aa nC];exact h1) (by rw[←aa nC];exact h2) (by rw[←aa nC];exact h3))
    have HC:=ab (un _ (aa bj).rdr (yA (E:=C.E) (by rw[←aa nC,h3];decide)))
    clear h1 h2 h3 HQ sy so jN;go_wp2_with fail;refine(aa HC).mono ?_;rintro e w4 ⟨rfl,hb4,hR4⟩;have cy:=hb4.row (show w2.heap.size≠C.z by omega) (aa bq)
    have d1:w4.cell? ⟨w2.heap.size,1,none⟩=some (.string t.t):=cr cy;have bZ:=ab ((aa bj).next hzl hb4 hR4);have ii:Hid ((aI 1 t.t 0 ⟨#[]⟩ []).can=aI 1 t.t 0 ByteArray.empty []∧bd (w.heap.size+1) w4 (aI 1 t.t 0 ⟨#[]⟩ [])):=ab (⟨pu _ _ _ _,A5 ⟨by decide,by decide⟩ ⟨by decide,by decide⟩ (by omega) (by decide)⟩)
    clear hb4 hR4 cy HC;go_wp2_with (first
     | (refine aX rfl 24 _ _ rfl w.heap.size #[.int .i64 1,.string t.t,.int .i64 0,.string ⟨#[]⟩,.slice none 0 0] rfl rfl 24 aB (aa bZ).res eT rfl (by simp[Value.oneCell']) ?_)
     | fail)
    (try simp only[Exit.inBlock,Exit.then])
    refine ck (dT rfl _ _ w.heap.size 24 #[.int .i64 1,.string t.t,.int .i64 0,.string ⟨#[]⟩,.slice none 0 0] (0,0) _ rfl (cm _ _ _ _ _ _ (aa bZ).res) underlying24 rfl eT) rfl ?_;exact(aa bZ).done (U:=aI 1 t.t 0 ⟨#[]⟩ []) (aa HR) (aa aS) (aa ii).1 (aa ii).2 _
   ·have q3:((t.k:Int)==3)=false:=bn
    cases h4:aM (ak C.E 0 l) (ah 36)
    ·have bQ:Hid (RR=_):=ab ((aa HQ).trans (MW (by rw[←aa nC];exact h1) (by rw[←aa nC];exact h2) (by rw[←aa nC];exact h3) h4))
     have HC:=ab (pr (ah 36) _ (aa bj).rdr h4);have rg:=ab (fun w l h=>sJ (C:=C) (l:=l) (o:=o) (ah 40) w h)
     have rf:=ab (fun w l h=>sJ (C:=C) (l:=l) (o:=o) (ah 41) w h)
     clear h1 h2 h3 h4 HQ sy jN;unfold ah at HC rg rf bQ;generalize bV C.E d=p at *;go_wp2_with fail;refine(aa HC).mono ?_;rintro e w4 ⟨rfl,hb4⟩;have bZ:=ab ((aa bj).below hb4);have sA:=ab (aa rg w4 l (aa bZ).rdr);have HS4:Hid (w.heap.size+1≤w4.heap.size):=ab ((aa bZ).size);clear hb4 HC rg;go_wp2_with fail;refine(aa sA).mono ?_;intro e w5 hp
     cases hq:ee C.E ⟨#[40]⟩ l with
     | error x=>
      obtain⟨er,i⟩:=x;obtain⟨hb5,rfl⟩:=dB hp hq;have ez:=ab ((aa bZ).but.trans hb5);have aS:Hid (RR=.error (er,i)):=ab (by rw[aa bQ,hq,dn])
      clear hp hb5 hq;unfold aC;go_wp2_with fail;exact⟨rfl,fH (aa aS) (aa ez) rfl⟩
     | ok x=>
      obtain⟨xu,r⟩:=x;obtain⟨hb5,rfl,hR5⟩:=dC hp hq;have dt:=ab ((aa bZ).next hzl hb5 hR5);have aS:Hid (RR=aR (eV C.E p r) fun x q=>aR (ee C.E ⟨#[41]⟩ q) fun _ m=>.ok (x,m)):=ab (by rw[aa bQ,hq,aT])
      have vK:=ab (aa so r w5 (aa dt).rdr ((aa HE).but (aa dt).but));clear hp hb5 hq hR5 sA so;go_wp2_with fail;refine(aa vK).mono ?_;intro e w6 hp
      cases hq:eV C.E p r with
      | error x=>
       obtain⟨er,i⟩:=x;obtain⟨hb6,rfl⟩:=dB hp hq;have gC:=ab ((aa dt).but.trans hb6);have bK:Hid (RR=.error (er,i)):=ab (by rw[aa aS,hq,dn])
       clear hp hb6 hq;unfold aC;go_wp2_with fail;exact⟨rfl,fH (aa bK) (aa gC) rfl⟩
      | ok x=>
       obtain⟨x,q⟩:=x;obtain⟨hb6,⟨U,rfl,cE,cS⟩,hR6⟩:=dC hp hq;have qG:Below w6.heap.size w6 (w6.alloc (.cells (ai U) 24)):=ba _;have l4:=((aa dt).next hzl hb6 hR6).below qG;have gK:=ab l4;have rb:Hid ((w6.alloc (.cells (ai U) 24)).heap[w6.heap.size]? =some (.cells (ai U) 24 (0,0))):=ab (aw rfl);have kS:Hid (U.can=x∧bd (w.heap.size+1) (w6.alloc (.cells (ai U) 24)) U):=ab (⟨cE,(cS.mono (aa dt).size).below qG⟩);have bK:Hid (RR=aR (ee C.E ⟨#[41]⟩ q) fun _ m=>.ok (x,m)):=ab (by rw[aa aS,hq,aT])
       have jO:=ab (aa rf _ q l4.rdr);have hw6:w.heap.size+1≤w6.heap.size:=((aa dt).next hzl hb6 hR6).size;clear hp hb6 hq cE cS hR6 qG l4 vK rf;unfold pv;unfold ai at gK rb kS jO;go_wp2_with fail;refine(aa jO).mono ?_;intro e w7 hp
       cases hq:ee C.E ⟨#[41]⟩ q with
       | error x=>
        obtain⟨er,i⟩:=x;obtain⟨hb7,rfl⟩:=dB hp hq;have kC:=ab ((aa gK).but.trans hb7);have dJ:Hid (RR=.error (er,i)):=ab (by rw[aa bK,hq,dn])
        clear hp hb7 hq;unfold aC;go_wp2_with fail;exact⟨rfl,fH (aa dJ) (aa kC) rfl⟩
       | ok y=>
        obtain⟨xu2,m⟩:=y;obtain⟨hb7,rfl,hR7⟩:=dC hp hq;have bZ:=ab ((aa gK).next hzl hb7 hR7);have vg:=hb7.row (show w6.heap.size≠C.z by omega) (aa rb)
        obtain⟨s0,s1,s2,s3,s4⟩:=dD vg;have ii:Hid (U.can=x∧bd (w.heap.size+1) w7 U):=ab (⟨(aa kS).1,(aa kS).2.but hb7 (by omega)⟩)
        have aS:Hid (RR=.ok (x,m)):=ab (by rw[aa bK,hq,aT])
        clear hp hb7 hq hR7 vg jO gK rb kS;go_wp2_with (first
         | (refine aX rfl 24 _ _ rfl w.heap.size #[.int .i64 U.k,.string U.t,.int .i64 U.n,.string U.nm,.slice U.xa U.len U.cap] rfl rfl 24 aB (aa bZ).res eT rfl (by simp[Value.oneCell']) ?_)
         | fail)
        (try simp only[Exit.inBlock,Exit.then])
        refine ck (dT rfl _ _ w.heap.size 24 #[.int .i64 U.k,.string U.t,.int .i64 U.n,.string U.nm,.slice U.xa U.len U.cap] (0,0) _ rfl (cm _ _ _ _ _ _ (aa bZ).res) underlying24 rfl eT) rfl ?_;exact(aa bZ).done (U:=U) (aa HR) (aa aS) (aa ii).1 (aa ii).2 _
    ·have bQ:Hid (RR=_):=ab ((aa HQ).trans (MY (by rw[←aa nC];exact h1) (by rw[←aa nC];exact h2) (by rw[←aa nC];exact h3) h4))
     have HC:=ab (pq (ah 36) _ (aa bj).rdr h4);clear h1 h2 h3 h4 HQ sy so;unfold ah at HC
     cases d with
     | zero=>
      have aS:Hid (RR=.error (4,(ak C.E 0 l.tail).a)):=ab (by rw[aa bQ];rfl)
      have j6:=ab (fun w h=>Bb (C:=C) (l:=l.tail) (o:=o) w h (aa HO).symm)
      clear bQ jN;generalize (ak C.E 0 l.tail).a=ae at *;go_wp2_with fail;refine(aa HC).mono ?_;rintro e w4 ⟨rfl,hb4,hR4⟩;have dz:=ab ((aa bj).but.trans hb4);have jP:=ab (aa j6 _ hR4);clear hb4 hR4 HC j6;go_wp2_with fail;refine(aa jP).mono ?_;rintro e w5 ⟨rfl,hb5⟩;have ez:=ab ((aa dz).trans hb5);clear hb5;unfold aC;go_wp2_with fail;exact⟨rfl,fH (aa aS) (aa ez) rfl⟩
     | succ d=>
      have aS:Hid (RR=aR (fi C.E (bV C.E d) l.tail) fun x r=>.ok (kl 5 [x],r)):=ab (by rw[aa bQ];rfl)
      have hO:=aa HO;have j6:=ab (fun w h=>Ba (C:=C) (l:=l.tail) (o:=o) w h (by omega))
      rw[show o+1=400 - d by omega] at j6
      have HPC:Hid (∀l w,Syr C w l (400 - d)→SyEnv C w→Calls prog 180 #[.pointer (some ⟨C.z,0,none⟩)] w fun e w'=>fV (fv w.heap.size) C (400 - d) w (fi C.E (bV C.E d) l) e w'):=ab (fun l w h k=>jN d rfl C l w h k)
      have j3:=ab (fun w l h=>A3 (C:=C) (l:=l) (o:=o) w h (by omega))
      rw[show o+1=400 - d by omega] at j3
      clear bQ jN hd hO HO;generalize 400 - d=o1 at *;generalize bV C.E d=p at *;go_wp2_with fail;refine(aa HC).mono ?_;rintro e w4 ⟨rfl,hb4,hR4⟩;have bZ:=ab ((aa bj).next hzl hb4 hR4);have jP:=ab (aa j6 _ hR4);clear hb4 hR4 HC j6;go_wp2_with fail;refine(aa jP).mono ?_;rintro e w5 ⟨rfl,hb5,hR5⟩;have dt:=ab ((aa bZ).next hzl hb5 hR5);have vK:=ab (aa HPC l.tail w5 (aa dt).rdr ((aa HE).but (aa dt).but));clear hb5 hR5 jP HPC;go_wp2_with fail;refine(aa vK).mono ?_;intro e w6 hp
      cases hq:fi C.E p l.tail with
      | error x=>
       obtain⟨er,i⟩:=x;obtain⟨hb6,rfl⟩:=dB hp hq;have gC:=ab ((aa dt).but.trans hb6);have bK:Hid (RR=.error (er,i)):=ab (by rw[aa aS,hq,dn])
       clear hp hb6 hq;unfold aC;go_wp2_with fail;exact⟨rfl,fH (aa bK) (aa gC) rfl⟩
      | ok x=>
       obtain⟨x,q⟩:=x;obtain⟨hb6,⟨U0,rfl,cE,cS⟩,hR6⟩:=dC hp hq;have qG:Below w6.heap.size w6 (w6.alloc (.cells (ai U0) 24)):=ba _;have l4:=((aa dt).next hzl hb6 hR6).below qG;have gK:=ab l4;have rb:Hid ((w6.alloc (.cells (ai U0) 24)).heap[w6.heap.size]? =some (.cells (ai U0) 24 (0,0))):=ab (aw rfl);have kS:Hid (U0.can=x∧bd (w.heap.size+1) (w6.alloc (.cells (ai U0) 24)) U0):=ab (⟨cE,(cS.mono (aa dt).size).below qG⟩);have bK:Hid (RR=.ok (kl 5 [x],q)):=ab (by rw[aa aS,hq,aT])
       have jO:=ab (aa j3 _ q l4.rdr);have hw6:w.heap.size+1≤w6.heap.size:=((aa dt).next hzl hb6 hR6).size;clear hp hb6 hq cE cS hR6 qG l4 vK j3;unfold pv;unfold ai at gK rb kS jO;go_wp2_with fail;refine(aa jO).mono ?_;rintro e w7 ⟨rfl,hb7,hR7⟩;have pU:=(aa gK).next hzl hb7 hR7;have vg:=hb7.row (show w6.heap.size≠C.z by omega) (aa rb)
       obtain⟨s0,s1,s2,s3,s4⟩:=dD vg;have hl7:bd (w.heap.size+1) w7 U0:=(aa kS).2.but hb7 (by omega)
       obtain⟨U,⟨qK,qL⟩,js,hli⟩:=xS (k:=5) (nm:=⟨#[]⟩) (KidsX.one (B:=w.heap.size+1) hl7 (ax _) pU.size) ⟨by decide,by decide⟩ (by decide)
       have vd:Below w7.heap.size w7 (w7.alloc (.cells (ai U0) 24)):=ba _;have bZ:=ab (pU.below vd);have ii:Hid (U.can=kl 5 [x]∧bd (w.heap.size+1) (w7.alloc (.cells (ai U0) 24)) U):=ab (⟨by rw[js,(aa kS).1];rfl,hli⟩)
       have kQ:=ab (And.intro qL qK);clear hb7 hR7 vg pU jO gK rb kS qK qL js hli hl7 vd;unfold ai at bZ ii;go_wp2_with (first
        | (refine aX rfl 24 _ _ rfl w.heap.size #[.int .i64 5,.string ⟨#[]⟩,.int .i64 0,.string ⟨#[]⟩,.slice (some ⟨w7.heap.size,0,none⟩) 1 1] rfl rfl 24 aB (aa bZ).res eT rfl (by simp[Value.oneCell']) ?_)
        | fail)
       (try simp only[Exit.inBlock,Exit.then])
       refine ck (dT rfl _ _ w.heap.size 24 #[.int .i64 5,.string ⟨#[]⟩,.int .i64 0,.string ⟨#[]⟩,.slice (some ⟨w7.heap.size,0,none⟩) 1 1] (0,0) _ rfl (cm _ _ _ _ _ _ (aa bZ).res) underlying24 rfl eT) rfl ?_;rw[←(aa kQ).2];exact(aa bZ).done (U:=U) (aa HR) (aa bK) (aa ii).1 (aa ii).2 _
open Go.RowKit
theorem ox {B k:Nat} {w w':World} {v:Value} {L:List PT} {x:Obj} (hr:cc w B 24 5 eO v L) (hg:w.grownBy w' v.ownBlock) (hk:w.heap[k]? =some x) (hb:k < B):w'.heap[k]? =some x:=
 (hg.block k (bC.1 hk).1 fun e=>by have:=(hr.low e.symm).1;omega).trans hk
theorem wQ (k:Int):bF k≤8:=by
 unfold bF
 by_cases h1:k=6
 ·rw[af h1];omega
 ·rw[ac h1];split
  ·omega
  ·split <;> omega
structure XBre (w:World) (T:PT) (t:ByteArray) (n:Int) (nm:ByteArray) (wr:World) (v:Value) (i:Nat) (L:List PT):Prop where
 inn:wr.heap[w.heap.size]? =some (.cells (ai T) 24 (0,0))
 box:wr.heap[w.heap.size+1]? =some (.cells aB 24 (0,0))
 out:wr.heap[w.heap.size+1+1]? =some (.cells #[.int .i64 T.k,.string t,.int .i64 n,.string nm,v] 24 (0,0))
 bel:Below w.heap.size w wr
 kids:KidsX (w.heap.size+1+1+1) wr v L ((T.lst.take i).map PT.bex)
theorem XBre.lt {w:World} {T:PT} {t:ByteArray} {n:Int} {nm:ByteArray} {wr:World} {v:Value} {i:Nat} {L:List PT} (h:XBre w T t n nm wr v i L):w.heap.size+1+1 < wr.heap.size:=(bC.1 h.out).1
theorem XBre.len {w:World} {T:PT} {t:ByteArray} {n:Int} {nm:ByteArray} {wr:World} {v:Value} {i:Nat} {L:List PT} (h:XBre w T t n nm wr v i L) (hi:i≤T.len):L.length=i:=by
 have:=aJ List.length h.kids.can;rw[uW,uW,List.length_take,PT.lst_len] at this;omega
theorem XBre.put {w:World} {T:PT} {t:ByteArray} {n:Int} {nm:ByteArray} {wr w3 w4 w6:World} {v v':Value} {i:Nat} {L:List PT} {U:PT} (h:XBre w T t n nm wr v i L) (hi:i < T.len) (hb3:Below wr.heap.size wr w3) (hb:Below w3.heap.size w3 w4) (hU:U.can=(T.kid i).bex) (hL:bd w3.heap.size w4 U)
  (aV:cc w6 (w.heap.size+1+1+1) 24 5 eO v' (L++[U])) (hg:(w4.alloc (.cells (ai U) 24)).grownBy w6 v.ownBlock) (hn:v'.ownBlock=v.ownBlock∨v'.ownBlock=some (w4.alloc (.cells (ai U) 24)).heap.size):
  XBre w T t n nm (w6.setCell ⟨w.heap.size+1+1,4,none⟩ v') v' (i+1) (L++[U]):=by
 have hk3:KidsX (w.heap.size+1+1+1) w3 v L ((T.lst.take i).map PT.bex):=h.kids.below hb3;have hb5:Below w4.heap.size w4 (w4.alloc (.cells (ai U) 24)):=ba _;have ie:Below w3.heap.size w3 (w4.alloc (.cells (ai U) 24)):=ap hb hb5;have fj:cc (w4.alloc (.cells (ai U) 24)) (w.heap.size+1+1+1) 24 5 eO v L:=hk3.row.later ie;have au:=h.lt;have old:∀k x,k < w.heap.size+1+1+1→wr.heap[k]? =some x→w6.heap[k]? =some x:=fun k x hk hx=>ox fj hg (am (am hx hb3) ie) hk
 have hk6:KidsX (w.heap.size+1+1+1) w6 v' (L++[U]) ((T.lst.take i).map PT.bex++[U.can]):=(hk3.below hb).snoc (w:=w3) (by have:=hb3.size;omega) (fun k hk=>(hk3.row.low hk).2) hL aV hg hn
 have o6:=old _ _ (by omega) h.out
 have hlt6:w.heap.size+1+1 < w6.heap.size:=(bC.1 o6).1;refine⟨(dm w6 ⟨w.heap.size+1+1,4,none⟩ _ _ (by show w.heap.size≠w.heap.size+1+1;omega)).trans (old _ _ (by omega) h.inn),(dm w6 ⟨w.heap.size+1+1,4,none⟩ _ _ (by show w.heap.size+1≠w.heap.size+1+1;omega)).trans (old _ _ (by omega) h.box),fK w6 (w.heap.size+1+1) 4 _ _ v' o6, ?_, ?_⟩
 ·refine ly ?_ (by omega) _ _
  have cz:Below w.heap.size w (w4.alloc (.cells (ai U) 24)):=ap (ap h.bel hb3) ie;exact⟨hg.os.trans cz.os,hg.tape.trans cz.tape,hg.output.trans cz.output,bJ cz.size hg.size,fun k hk=>(hg.block k (i6 hk cz.size) fun e=>by have:=(fj.low e.symm).1;omega).trans (cz.block k hk)⟩
 ·have e:(T.lst.take (i+1)).map PT.bex=(T.lst.take i).map PT.bex++[U.can]:=by
   rw[List.take_add_one,PT.lst_at hi,qA,hU];rfl
  rw[e];exact hk6.but ((But.refl (w.heap.size+1+1) w6).setCell 4 v') (by show w.heap.size+1+1 < w.heap.size+1+1+1;omega)
theorem XBre.fin {w:World} {T:PT} {t:ByteArray} {n:Int} {nm:ByteArray} {wr:World} {v:Value} {L:List PT} (h:XBre w T t n nm wr v T.len L) (hT:T.In w) (aA:T.badX=0) (ht:t=if T.k=1 then T.t else ByteArray.empty) (hn:n=if T.k=2 then T.n else 0) (hm:nm=if bW T.k=true then T.nm else ByteArray.empty):
  ∃U:PT,ai U= #[.int .i64 T.k,.string t,.int .i64 n,.string nm,v]∧U.can=T.bex∧bd (w.heap.size+1+1+1) wr U:=by
 obtain⟨he,hk⟩:=iV aA;obtain⟨⟨k1,tG⟩,rt,rn,rm,eI,gX⟩:=oz he;have jW:(T.lst.take T.len)=T.lst:=AD (by rw[PT.lst_len];exact ax _)
 have hK:=h.kids;rw[jW] at hK;have tr:t.size≤65536:=by
  rw[ht];split
  ·rename_i q;exact rt q
  ·decide
 have uZ:nm.size≤65536:=by
  rw[hm];split
  ·rename_i q;have:=ms (rm q);omega
  ·decide
 have kq:0≤n∧n≤9223372036854775807:=by
  rw[hn];split
  ·rename_i q;exact⟨rn q,hT.num.2⟩
  ·decide
 by_cases h0:T.k=1∨T.k=2
 ·have hz:T.len=0:=by
   have:bF T.k=0:=by unfold bF;rw[ac (by omega),ac (by omega),ac (by omega)]
   omega
  have hl:=h.len (ax _);have hL:L=[]:=kJ (by omega)
  subst hL;have hv:v=.slice none 0 0∨∃g cap,v=.slice (some ⟨g,0,none⟩) 0 cap∧0≤cap∧cap≤maxLen:=by
   rcases h.kids.row.2 with ⟨hv,_⟩ | ⟨g,cap,cur,hv,_,_,_,hm,_⟩
   ·exact .inl hv
   ·exact .inr ⟨g,cap,hv,cU _,hm⟩
  have ld:T.bex=aI T.k t n nm []:=by rw[T.bex_eq,rx hz,←ht,←hn,←hm];rfl
  rcases hv with rfl | ⟨g,cap,rfl, -, -⟩
  ·exact⟨aI T.k t n nm [],rfl,by rw[pu,ld],A5 (by omega) kq tr uZ⟩
  ·refine⟨⟨T.k,t,n,nm,some ⟨g,0,none⟩,g,0,0,cap,fun i=>i.elim0⟩,rfl, ?_,fun X _=>⟨by constructor <;> omega,by unfold maxLen;omega,by constructor <;> omega,by unfold maxLen;omega,by unfold maxLen;decide,cU _,fun h=>absurd h (xG _),fun i=>i.elim0⟩⟩
   rw[ld,PT.can_eq];rfl
 ·rw[ac (by omega)] at ht
  rw[ac (by omega)] at hn
  subst ht hn;obtain⟨U,⟨-,hU⟩,hc,hl⟩:=xS (k:=T.k) (nm:=nm) hK ⟨by omega,by omega⟩ uZ
  exact⟨U,hU,by rw[hc,T.bex_eq,ac (by omega),ac (by omega),←hm],hl⟩
def oB (T:PT):Prop:=∀w:World,T.In w→T.badX=0→Calls prog 28 #[pv T] w fun e w'=>(∃U:PT,e=.returned (pv U)∧U.can=T.bex∧bd w.heap.size w' U)∧Below w.heap.size w w'
open Go.RowKit
theorem Mf {T:PT} (ih:∀i,i < T.len→oB (T.kid i)) (hc:T.k=5∨7≤T.k):oB T:=by
 intro w hT aA;have HA:=ab hT;have gV:=ab aA;have gY:=ab (iV aA).2;have IH:=ab ih;have eR:Hid (T.len≤4096):=ab (by have:=wQ T.k;have:=(oz (iV aA).1).2.2.2.2.2;omega)
 have jg:Hid (⟨#[]⟩=if T.k=1 then T.t else ByteArray.empty):=ab (by rw[ac (by omega)];rfl)
 have dl:Hid (0=if T.k=2 then T.n else 0):=ab (by rw[ac (by omega)])
 have eJ:Hid (⟨#[]⟩=if bW T.k=true then T.nm else ByteArray.empty):=ab (by rw[ac (by unfold bW;simp;omega)];rfl)
 have e1:(T.k==1)=false:=bn;have e2:(T.k==2)=false:=bn;have e3:(T.k==3)=false:=bn;have e4:(T.k==4)=false:=bn;have e6:(T.k==6)=false:=bn;obtain⟨W,hW⟩:∃W,W=((w.alloc (.cells (ai T) 24)).alloc (.cells aB 24)).alloc (.cells #[.int .i64 T.k,.string ⟨#[]⟩,.int .i64 0,.string ⟨#[]⟩,.slice none 0 0] 24):=⟨_,rfl⟩;have HB:Hid (Below w.heap.size w W):=ab (by rw[hW];exact((ba _).alloc (by simp) _).alloc (by simp;omega) _)
 have HO:Hid (W.heap[w.heap.size+1+1]? =some (.cells #[.int .i64 T.k,.string ⟨#[]⟩,.int .i64 0,.string ⟨#[]⟩,.slice none 0 0] 24 (0,0))):=ab (by rw[hW];exact aw (by simp))
 have HX:Hid (W.heap[w.heap.size+1]? =some (.cells aB 24 (0,0))):=ab (by rw[hW];exact bL (by simp) (aw (by simp)))
 have HP:Hid (W.heap[w.heap.size]? =some (.cells (ai T) 24 (0,0))):=ab (by rw[hW];exact bL (by simp;omega) (bL (by simp) (aw rfl)))
 have HW:=ab hW;have rY:¬w.heap.size=w.heap.size+1+1:=by omega
 have rX:¬w.heap.size+1+1=w.heap.size:=by omega
 clear hT aA ih hW hc;unfold pv;go_enter func28,ntmps28;go_wp2_with fail;rw[show ((w.alloc (.cells #[.int .i64 T.k,.string T.t,.int .i64 T.n,.string T.nm,.slice T.xa T.len T.cap] 24)).alloc (.cells #[.int .i64 0,.string ⟨#[]⟩,.int .i64 0,.string ⟨#[]⟩,.slice none 0 0] 24)).alloc (.cells #[.int .i64 T.k,.string ⟨#[]⟩,.int .i64 0,.string ⟨#[]⟩,.slice none 0 0] 24)=W from (aa HW).symm];clear HW;have aD:Hid (XBre w T ⟨#[]⟩ 0 ⟨#[]⟩ W (.slice none 0 0) 0 []):=ab (⟨aa HP,aa HX,aa HO,aa HB,KidsX.nil⟩);clear HP HX HO HB;go_loopw [31] (fun x wr=>∃(k:Nat) (v:Value) (L:List PT),k≤T.len∧x=.int .i64 (k:Int)∧Hid (XBre w T ⟨#[]⟩ 0 ⟨#[]⟩ wr v k L)) (fun x _=>T.len - (intOf x).toNat)
 case atStart=>exact⟨0,_,[],cU _,rfl,aa aD⟩
 case round=>
  obtain⟨k,v,L,hk,rfl,HK⟩:=hrel;clear aD;have js:=aa eR;rcases cX k T.len with au | jc
  ·have g1:(k:Int) < (T.len:Int):=by omega
   have lm:=mu (aa HA) au;have bA:=(aa HA).cells au;unfold PT.kv at bA;have HC:=ab (fun W (hb:Below w.heap.size w W)=>aa IH k au W (PT.In.later hb ((aa HA).kids au)) (aa gY k au))
   have cd:=(fun (i:Nat) (x:Value) (h:w.cell? ⟨T.b,i,none⟩=some x)=>av (aa HK).bel h)
   have a0:=cd _ _ bA.1;have a1:=cd _ _ bA.2.1;have a2:=cd _ _ bA.2.2.1;have a3:=cd _ _ bA.2.2.2.1;have a4:=cd _ _ bA.2.2.2.2;clear cd bA;obtain⟨P,hP⟩:∃P,T.kid k=P:=⟨_,rfl⟩;rw[hP] at HC a0 a1 a2 a3 a4;have kz:=ab hP;clear hP;unfold pv at HC;have hb3:Below wr.heap.size wr (wr.alloc (.cells (ai P) 24)):=ba _;have hq:(wr.alloc (.cells (ai P) 24)).heap[wr.heap.size]? =some (.cells (ai P) 24 (0,0)):=aw rfl;have kA:=ab (am (aa HK).out hb3);have aq:=ab hb3;have dZ:=ab hq;go_wp2_with fail;rw[show (#[.int .i64 P.k,.string P.t,.int .i64 P.n,.string P.nm,.slice P.xa P.len P.cap]:Array Value)=ai P from rfl];generalize (wr.alloc (.cells (ai P) 24))=w3 at *;obtain⟨q0,q1,q2,q3,q4⟩:=dD (aa dZ);obtain⟨o0,o1,o2,o3,o4⟩:=dD (aa kA);clear hq hb3 a0 a1 a2 a3 a4 o0 o1 o2 o3;have dR:=ab (aa HK).lt;obtain⟨S0,aO⟩:∃S0:World→Prop,S0=fun w'=>w'.cell? ⟨w.heap.size+1+1,4,none⟩=some v∧w'.cell? ⟨wr.heap.size,0,none⟩=some (.int .i64 P.k)∧w'.cell? ⟨wr.heap.size,1,none⟩=some (.string P.t)∧w'.cell? ⟨wr.heap.size,2,none⟩=some (.int .i64 P.n)∧w'.cell? ⟨wr.heap.size,3,none⟩=some (.string P.nm)∧w'.cell? ⟨wr.heap.size,4,none⟩=some (.slice P.xa P.len P.cap):=⟨_,rfl⟩
   have ao:=ab aO;have hS:S0 w3.drew:=by rw[aO];exact⟨o4,q0,q1,q2,q3,q4⟩
   have aU:Hid (∀W,Below w3.heap.size w3 W→S0 W):=ab (fun W h=>by rw[aO];exact⟨av h o4,av h q0,av h q1,av h q2,av h q3,av h q4⟩)
   clear aO;refine gZ 7 S0 ?_;intro F;refine aK F 0 ao hS ?_
   (try go_frame)
   refine aK F 1 ao hS ?_
   (try go_frame)
   refine aK F 2 ao hS ?_
   (try go_frame)
   refine cg 3 (fun K3 cO=> ?_)
   go_simp;have ko:Below w.heap.size w w3.drew:=(ap (aa HK).bel (aa aq)).drew;refine(aa HC _ ko).mono ?_;rintro e w4 ⟨⟨U,rfl,hU,hL⟩,hb4⟩;have hb4':Below w3.heap.size w3 w4:=ap (aW _ _).drew hb4;refine cO _ _ (aa aU _ hb4') ?_;refine cg 4 (fun K4 bH=> ?_)
   (try unfold pv)
   go_simp;have hb5:Below w4.heap.size w4 (w4.alloc (.cells (ai U) 24)):=ba _;refine bH _ _ (aa aU _ (ap hb4' hb5)) ?_;refine cg 5 (fun K5 dP=> ?_)
   have dw:cc (w4.alloc (.cells (ai U) 24)) (w.heap.size+1+1+1) 24 5 eO v L:=((aa HK).kids.row.later (aa aq)).later (ap hb4' hb5);have sf:=(aa HK).len hk;refine ql underlying22 wc rfl (by decide) (by decide) jh nK rfl (.tmp 36) (.tmp 39) rfl dw (by rw[eu];have:=aa dR;have:=hb4'.size;have:=(aa aq).size;omega) U w4.heap.size 1 rfl rfl vQ (by have:=aa eR;omega) ?_
   intro v' w6 aV bS dX;have ef:=ab ((aa HK).put au (aa aq) hb4' (by rw[hU,aa kz]) hL aV bS dX)
   have hfz:=cT w6 (w.heap.size+1+1) 4 _ _ (show w6.heap[w.heap.size+1+1]? =_ from ox dw bS (am (am (aa HK).out (aa aq)) (ap hb4' hb5)) (by omega))
   have gq:=(dD (show w6.heap[w.heap.size+1+1]? =_ from ox dw bS (am (am (aa HK).out (aa aq)) (ap hb4' hb5)) (by omega))).2.2.2.2
   have dQ:Hid (S0 w6):=ab (by
    rw[aa ao];have dV:w6.heap[wr.heap.size]? =_:=(bS.block wr.heap.size (i6 (bC.1 (aa dZ)).1 (ap hb4' hb5).size) (fun e=>by have h1:=((aa HK).kids.row.low e.symm).2;omega)).trans (am (aa dZ) (ap hb4' hb5))
    obtain⟨z0,z1,z2,z3,z4⟩:=dD dV;exact⟨gq,z0,z1,z2,z3,z4⟩)
   obtain⟨g6,cap6,eg, -, -⟩:=aV.form (by simp)
   generalize (L++[U]).length=n6 at eg;subst eg;refine dP _ _ (aa dQ) ?_;refine cg 6 (fun K6 gx=> ?_)
   go_simp;refine gx _ _ (aa dQ) ?_;refine g5 (by kernel_rfl) rfl (by kernel_rfl) (fun K7 gu=> ?_)
   clear aV bS dX dw hb5 hb4 hb4' hL hU hS q0 q1 q2 q3 q4 o4;go_simp;refine gu _ _ ?_
   (try simp only[aH,aP,aG])
   (try go_frame)
   clear gu gx dP bH cO K7 K6 K5 K4 K3 F ao aU gq hfz;go_wp2_with fail;exact⟨⟨k+1,_,L++[U],by omega,rfl,aa ef⟩,by simp[intOf];omega⟩
  ·obtain rfl:k=T.len:=by omega
   have g1:¬(T.len:Int) < (T.len:Int):=by omega
   obtain⟨U,gt,eh,gr⟩:=(aa HK).fin (aa HA) (aa gV) (aa jg) (aa dl) (aa eJ);obtain⟨o0,o1,o2,o3,o4⟩:=dD (aa HK).out;have HX:=ab (aa HK).box;have HU:=ab (And.intro gt (And.intro eh gr));have ay:=(aa HK).lt;clear gt eh gr;go_wp2_with (first
    | (refine aX rfl 24 _ _ rfl (w.heap.size+1) #[.int .i64 T.k,.string ⟨#[]⟩,.int .i64 0,.string ⟨#[]⟩,v] rfl rfl 24 aB (aa HX) eT rfl (by rw[←(aa HU).1];exact ik U) ?_)
    | fail)
   (try simp only[Exit.inBlock,Exit.then])
   refine ck (dT rfl _ _ (w.heap.size+1) 24 #[.int .i64 T.k,.string ⟨#[]⟩,.int .i64 0,.string ⟨#[]⟩,v] (0,0) _ rfl (cm _ _ _ _ _ _ (aa HX)) underlying24 rfl eT) rfl ?_;exact⟨⟨U,by have h:=(aa HU).1;unfold ai at h;rw[h],(aa HU).2.1,((aa HU).2.2.setRow (by omega) _).mono (by omega)⟩,eL (aa HK).bel _ (by omega) _⟩
end Go.Proofs.YtlmnjbipfacniaaGreatDoor
