/- The reader of lines: what begins with an expression, the wal -/
import Derived.Test.YtlmnjbipfacniaaGreatDoorSyQM
set_option maxRecDepth 100000
set_option maxHeartbeats 16000000
namespace Go.Proofs.YtlmnjbipfacniaaGreatDoor
open Go.Proofs.Tryz
open Go.RowKit
structure SyT (sb:Nat):Prop where
 g1:sb≠1
 g2:sb≠0
 g3:sb≠9
theorem qk {z s g o:Nat} {w w':World} {v:Value} (hb:But2 z s w w') (h:w.cell? ⟨g,o,none⟩=some v) (hz:z≠g) (hs:s≠g):w'.cell? ⟨g,o,none⟩=some v:=by
 have hg:=hb.block g (de _ _ h) (fun e=>hz e.symm) (fun e=>hs e.symm)
 rw[←h];unfold World.cell?;rw[hg]
theorem SyEnv.but2 {C:SyC} {sb:Nat} {w w':World} (h:SyEnv C w) (hb:But2 C.z sb w w') (hT:SyT sb):SyEnv C w':=by
 refine⟨fun K h1 h2=> ?_,fun K h1 h2=> ?_,qk hb h.sh0 h.z2 hT.g2, ?_,h.z1,h.z2,h.z3⟩
 ·obtain⟨a,b,c,d⟩:=h.sh K h1 h2
  exact⟨qk hb a h.z1 hT.g1,qk hb b h.z1 hT.g1,qk hb c h.z1 hT.g1,qk hb d h.z1 hT.g1⟩
 ·obtain⟨a,b,c,d,e⟩:=h.shx K h1 h2
  exact⟨qk hb a h.z2 hT.g2,qk hb b h.z2 hT.g2,qk hb c h.z2 hT.g2,qk hb d h.z2 hT.g2,qk hb e h.z2 hT.g2⟩
 ·obtain⟨te,pe,q⟩:=h.er
  exact⟨te,pe,qk hb q h.z3 hT.g3⟩
structure StX (C:SyC) (B sb:Nat) (w W:World) (l:List Tk) (S P:SV) (xb:Nat) (U x:PT):Prop where
 st:StR C 0 B sb w W l S P
 box:W.heap[xb]? =some (.cells (ai U) 24 (0,0))
 can:U.can=x
 lie:bd B W U
 low:B≤xb
section
variable {C:SyC} {B sb xb:Nat} {w W W':World} {l l':List Tk} {S P S' P':SV} {U x:PT}
theorem StX.next (h:StX C B sb w W l S P xb U x) (hS:SyS C B sb) (hb:But C.z W W') (hR:Syr C W' l' 0):StX C B sb w W' l' S P xb U x:=
 ⟨h.st.next hS hb hR,hb.row (by have:=hS.z;have:=h.low;omega) h.box,h.can,h.lie.but hb hS.z,h.low⟩
theorem StX.below (h:StX C B sb w W l S P xb U x) (hb:Below W.heap.size W W'):StX C B sb w W' l S P xb U x:=⟨h.st.below hb,am h.box hb,h.can,h.lie.below hb,h.low⟩
theorem StX.put (h:StX C B sb w W l S P xb U x) (hS:SyS C B sb) (h1:StR C 0 B sb w W' l' S' P') (hs:W.heap.size≤W'.heap.size) (ho:∀i,i≠sb→W'.heap[i]? =W.heap[i]?):StX C B sb w W' l' S' P' xb U x:=
 ⟨h1,(ho xb (by have:=hS.s;have:=h.low;omega)).trans h.box,h.can,h.lie.step hs fun i q _=>ho i (by have:=hS.s;omega),h.low⟩
end
theorem JO {C:SyC} {l:List Tk} {B sb:Nat} {S P:SV} (w:World) (hS:SyS C B sb) (hT:SyT sb) (hR:Syr C w l 0) (hE:SyEnv C w) (hI:StIn B sb w S P) (si:B≤w.heap.size) (kM:P.tg=PT.nul) (nk:P.pa=PT.nul):Calls prog 103 #[.pointer (some ⟨C.z,0,none⟩),.pointer (some ⟨sb,0,none⟩)] w fun e w'=>iK C 0 B sb w (nS C.E 400 P l) e w':=by
 obtain⟨pl,pk,ptg,pva,ppa,pnm,pen,pps,pls,pal,pye,pno⟩:=P;have kM:ptg=PT.nul:=kM;have nk:ppa=PT.nul:=nk;subst kM nk;have H0:Hid (StR C 0 B sb w w l S _):=ab (⟨But2.refl _ _ _,hR,hI⟩);have HS:=ab hS;have HTT:=ab hT;have HE:=ab hE;have HAT:=ab (zR w hR);have HXP:Hid (∀l w,Syr C w l 0→SyEnv C w→Calls prog 136 #[.pointer (some ⟨C.z,0,none⟩)] w fun e w'=>fV (fv w.heap.size) C 0 w (uM C.E 400 l) e w'):=ab (fun l w h k=>(D2 400 (ax _)).2.2.2 C l w h k)
 have mj:=ab (fun w l h k=>C3 (C:=C) (l:=l) (o:=0) w h k)
 have HTH:=ab (fun w=>ul 8 (ak C.E 0 l).a w)
 have HQY:=ab (fun w l h q=>pq (C:=C) (l:=l) (o:=0) (ah 63) w h q)
 have HQN:=ab (fun w l h q=>pr (C:=C) (l:=l) (o:=0) (ah 63) w h q)
 have HGY:=ab (fun w l h q=>pq (C:=C) (l:=l) (o:=0) (ah 61) w h q)
 have HGN:=ab (fun w l h q=>pr (C:=C) (l:=l) (o:=0) (ah 61) w h q)
 obtain⟨RR,bM⟩:∃RR,RR=nS C.E 400 ⟨pl,pk,PT.nul,pva,PT.nul,pnm,pen,pps,pls,pal,pye,pno⟩ l:=⟨_,rfl⟩;rw[←bM];unfold nS at bM;have HQ:=ab bM;have hBz:C.z < B:=hS.z;have hBs:sb < B:=hS.s;clear hR hE hI hS hT bM;unfold ah at HQY HQN HGY HGN;generalize (ak C.E 0 l).a=a0 at *;generalize hXF:uM C.E 400=XF at *;have HXF:=ab hXF;clear hXF;go_enter func103,ntmps103;go_wp2_with fail;refine(aa HAT).mono ?_;rintro e w1 ⟨rfl,hb1⟩;have H1:=ab ((aa H0).below hb1);have dy:=ab (aa HXP l w1 (aa H1).rdr ((aa HE).but2 (aa H1).but (aa HTT)));clear hb1 HAT;go_wp2_with fail;refine(aa dy).mono ?_;intro e w2 hp
 cases hq:XF l with
 | error y=>
  obtain⟨er,i⟩:=y;obtain⟨an,rfl⟩:=dB hp hq;have bq:=ab ((aa H1).but.trans (But2.of an));have hQ:=aa HQ;rw[hq] at hQ;simp only[dn] at hQ;have eb:=ab hQ;clear hp an hq hQ HQ;unfold aC;go_wp2_with fail;exact⟨rfl,fA (aa eb) (aa bq) rfl⟩
 | ok y=>
  obtain⟨x,r1⟩:=y;obtain⟨an,⟨U,rfl,cE,cS⟩,cv⟩:=dC hp hq;have hQ:=aa HQ;rw[hq] at hQ;simp only[aT] at hQ;unfold uN at hQ;unfold ah at hQ;have HQ:=ab hQ;have cN:=(aa H1).next (aa HS) an cv;have bz:Below w2.heap.size w2 (w2.alloc (.cells (ai U) 24)):=ba _;have lj:B≤w1.heap.size:=bJ si (aa H1).but.size;have H3:Hid (StX C B sb w (w2.alloc (.cells (ai U) 24)) r1 S _ w2.heap.size U x):=ab (⟨cN.below bz,aw rfl,cE,(cS.mono lj).below bz,by have:=an.size;omega⟩)
  clear hp an hq hQ cE cS cv cN bz dy H1;unfold pv;unfold ai at H3;generalize hxb:w2.heap.size=xb at *;go_wp2_with fail;clear hxb
  cases hm:aM (ak C.E 0 r1) ⟨#[63]⟩
  ·have hQ:=aa HQ
   rw[ac (by rw[hm];decide)] at hQ
   simp only[aT] at hQ;unfold sY at hQ;unfold ah at hQ;rw[aa HXF] at hQ;have HQ:=ab hQ;have tT:=ab (aa HQN _ r1 (aa H3).st.rdr hm);clear hQ hm;refine(aa tT).mono ?_;rintro e w4 ⟨rfl,hb4⟩;have H4:=ab ((aa H3).below hb4);clear hb4 tT H3;go_wp2_with fail;have HKF:=ab (fun w=>zp false false w)
   have rh:=ab (fun w=>zp false true w)
   cases hg:aM (ak C.E 0 r1) ⟨#[61]⟩
   ·have hQ:=aa HQ
    rw[ac (by rw[hg];decide)] at hQ
    simp only[aT] at hQ;have HQ:=ab hQ;have oW:=ab (aa HGN _ r1 (aa H4).st.rdr hg);clear hQ hg rh;refine(aa oW).mono ?_;rintro e w6 ⟨rfl,hb6⟩;have H6:=ab ((aa H4).below hb6);clear hb6 oW H4;go_wp2_with fail;refine(aa HKF _).mono ?_;rintro e w7 ⟨rfl,rfl⟩;have h6:=aa H6;have c1:=h6.st.stm.cell (k:=1) rfl;have f1:=h6.st.stm.fz 1;have h7:=h6.put (aa HS) (h6.st.kd (aa HS) (uO false false)) (by rw[nV];exact ax _) (fun i hi=>dm _ ⟨sb,1,none⟩ i _ hi)
    obtain⟨pT,pS,pR,pQ,pP⟩:=dD h7.box;have c7:=h7.st.stm.cell (k:=7) rfl;have c8:=h7.st.stm.cell (k:=8) rfl;have c9:=h7.st.stm.cell (k:=9) rfl;have sn:=h7.st.stm.cell (k:=10) rfl;have sj:=h7.st.stm.cell (k:=11) rfl;have f7:=h7.st.stm.fz 7;have f8:=h7.st.stm.fz 8;have f9:=h7.st.stm.fz 9;have f10:=h7.st.stm.fz 10;have f11:=h7.st.stm.fz 11;have H8:=ab (h7.put (aa HS) (h7.st.va (aa HS) h7.can h7.lie) (by rw[mS];exact ax _) (fun i hi=>lT _ _ _ _ _ hi))
    clear h6 h7;unfold set5 at H8;simp only[Nat.reduceAdd] at H8;go_wp2_with fail;go_end0;exact(aa H8).st.done (aa HQ)
   ·have hQ:=aa HQ
    rw[af hg] at hQ;have HQ:=ab hQ;have oW:=ab (aa HGY _ r1 (aa H4).st.rdr hg);clear hQ hg HKF;refine(aa oW).mono ?_;rintro e w6 ⟨rfl,hb6,hR6⟩;have H6:=ab ((aa H4).next (aa HS) hb6 hR6);clear hb6 hR6 oW H4;obtain⟨pT,pS,pR,pQ,pP⟩:=dD (aa H6).box;have re:=ab (fun w=>A2 U.k w)
    have tR:Hid (U.k=x.k):=ab (by rw[←(aa H6).can,rF])
    go_wp2_with fail
    cases kN:lU U.k
    ·rw[kN] at re
     have hQ:=aa HQ;rw[←aa tR,ac (by rw[kN];decide)] at hQ
     simp only[dn] at hQ;have HQ:=ab hQ;clear hQ kN tR;refine(aa re _).mono ?_;rintro e w7 ⟨rfl,rfl⟩;go_wp2_with fail;refine(aa HTH _).mono ?_;rintro e w7 ⟨rfl,rfl⟩;unfold aC;go_wp2_with fail;exact⟨rfl,fA (aa HQ) (aa H6).st.but rfl⟩
    ·rw[kN] at re
     have hQ:=aa HQ;rw[←aa tR,af kN] at hQ;have HQ:=ab hQ;clear hQ kN tR;refine(aa re _).mono ?_;rintro e w7 ⟨rfl,rfl⟩;clear pT pS pR pQ pP re;go_wp2_with fail;refine(aa rh _).mono ?_;rintro e w7 ⟨rfl,rfl⟩;have h6:=aa H6;have c1:=h6.st.stm.cell (k:=1) rfl;have f1:=h6.st.stm.fz 1;have h7:=h6.put (aa HS) (h6.st.kd (aa HS) (uO false true)) (by rw[nV];exact ax _) (fun i hi=>dm _ ⟨sb,1,none⟩ i _ hi)
     obtain⟨pT,pS,pR,pQ,pP⟩:=dD h7.box;have c7:=h7.st.stm.cell (k:=7) rfl;have c8:=h7.st.stm.cell (k:=8) rfl;have c9:=h7.st.stm.cell (k:=9) rfl;have sn:=h7.st.stm.cell (k:=10) rfl;have sj:=h7.st.stm.cell (k:=11) rfl;have f7:=h7.st.stm.fz 7;have f8:=h7.st.stm.fz 8;have f9:=h7.st.stm.fz 9;have f10:=h7.st.stm.fz 10;have f11:=h7.st.stm.fz 11;have H8:=ab (h7.put (aa HS) (h7.st.va (aa HS) h7.can h7.lie) (by rw[mS];exact ax _) (fun i hi=>lT _ _ _ _ _ hi))
     clear h6 h7;unfold set5 at H8;simp only[Nat.reduceAdd] at H8;go_wp2_with fail;have h8:=aa H8;clear H8 c1 f1 pT pS pR pQ pP c7 c8 c9 sn sj f7 f8 f9 f10 f11;obtain⟨w9,ic⟩:∃w9,w9=((((((w7.setCell ⟨sb,1,none⟩ (.int .i64 (uO false true))).setCell ⟨sb,7,none⟩ (.int .i64 U.k)).setCell ⟨sb,8,none⟩ (.string U.t)).setCell ⟨sb,9,none⟩ (.int .i64 U.n)).setCell ⟨sb,10,none⟩ (.string U.nm)).setCell ⟨sb,11,none⟩ (.slice U.xa U.len U.cap)):=⟨_,rfl⟩;rw[←ic] at h8 ⊢;clear ic;have H8:=ab h8;obtain⟨s0,s1,s2,s3,s4⟩:=dD h8.box;obtain⟨S0,aO⟩:∃S0:World→Prop,S0=fun w'=>w'.cell? ⟨xb,0,none⟩=some (.int .i64 U.k)∧w'.cell? ⟨xb,1,none⟩=some (.string U.t)∧w'.cell? ⟨xb,2,none⟩=some (.int .i64 U.n)∧w'.cell? ⟨xb,3,none⟩=some (.string U.nm)∧w'.cell? ⟨xb,4,none⟩=some (.slice U.xa U.len U.cap):=⟨_,rfl⟩
     have ao:=ab aO;have bw:S0 w9.drew:=by rw[aO];exact⟨s0,s1,s2,s3,s4⟩
     have aU:Hid (∀W,W.heap[xb]? =some (.cells (ai U) 24 (0,0))→S0 W):=ab (fun W h=>by rw[aO];exact dD h)
     have ro:=ab (h8.below (aW _ _).drew);have HRC:=ab (aa HXP r1.tail w9.drew (aa ro).st.rdr ((aa HE).but2 (aa ro).st.but (aa HTT)));clear aO h8;refine gZ 10 S0 ?_;intro F;refine aK F 0 ao bw ?_
     (try simp only[aH,aG])
     (try go_frame)
     refine aK F 1 ao bw ?_
     (try simp only[aH,aP,aG])
     (try go_frame)
     refine aK F 2 ao bw ?_
     (try simp only[aH,aP,aG])
     (try go_frame)
     refine aK F 3 ao bw ?_
     (try simp only[aH,aP,aG])
     (try go_frame)
     refine cg 4 (fun K2 ew=> ?_)
     go_simp;refine(aa HRC).mono ?_;intro e lL hp
     cases hq:XF r1.tail with
     | error y=>
      obtain⟨er,i⟩:=y;obtain⟨an,rfl⟩:=dB hp hq;have bq:=ab ((aa ro).st.but.trans (But2.of an));have hQ:=aa HQ;rw[hq] at hQ;simp only[dn] at hQ;have eb:=ab hQ;clear hp an hq hQ HQ;unfold aC;exact⟨rfl,fA (aa eb) (aa bq) rfl⟩
     | ok y=>
      obtain⟨yy,r9⟩:=y;obtain⟨an,⟨V2,rfl,yM,yL⟩,cv⟩:=dC hp hq;have hQ:=aa HQ;rw[hq] at hQ;simp only[aT] at hQ;have HQ:=ab hQ;have hs9:=(aa ro).st.but.size;have eD:=(aa ro).next (aa HS) an cv;have yS:bd B lL V2:=yL.mono (by omega)
      have iI:=ab eD;clear hp an hq hQ yL cv bw;unfold pv;refine ew _ _ (aa aU _ eD.box) ?_;have bw:S0 lL:=aa aU _ eD.box;refine aK F 5 ao bw ?_
      (try simp only[aH,aP,aG])
      (try go_frame)
      refine aK F 6 ao bw ?_
      (try simp only[aH,aP,aG])
      (try go_frame)
      have c2:=eD.st.stm.cell (k:=2) rfl;have f2:=eD.st.stm.fz 2;have c3:=eD.st.stm.cell (k:=3) rfl;have f3:=eD.st.stm.fz 3;have c4:=eD.st.stm.cell (k:=4) rfl;have f4:=eD.st.stm.fz 4;have c5:=eD.st.stm.cell (k:=5) rfl;have f5:=eD.st.stm.fz 5;have c6:=eD.st.stm.cell (k:=6) rfl;have f6:=eD.st.stm.fz 6;refine cg 7 (fun K3 cO=> ?_)
      go_simp;have eQ:=eD.put (aa HS) (eD.st.tg (aa HS) eD.can eD.lie) (by rw[mS];exact ax _) (fun i hi=>lT _ _ _ _ _ hi)
      have tu:bd B (set5 lL sb 2 U) V2:=yS.step (by rw[mS];exact ax _) fun i hi _=>lT _ _ _ _ _ (by omega)
      refine cO _ _ (aa aU _ eQ.box) ?_;clear bw c2 c3 c4 c5 c6 f2 f3 f4 f5 f6;have eQ:StX C B sb w (((((lL.setCell ⟨sb,2,none⟩ (.int .i64 U.k)).setCell ⟨sb,3,none⟩ (.string U.t)).setCell ⟨sb,4,none⟩ (.int .i64 U.n)).setCell ⟨sb,5,none⟩ (.string U.nm)).setCell ⟨sb,6,none⟩ (.slice U.xa U.len U.cap)) r9 _ _ xb U x:=eQ;have tu:bd B (((((lL.setCell ⟨sb,2,none⟩ (.int .i64 U.k)).setCell ⟨sb,3,none⟩ (.string U.t)).setCell ⟨sb,4,none⟩ (.int .i64 U.n)).setCell ⟨sb,5,none⟩ (.string U.nm)).setCell ⟨sb,6,none⟩ (.slice U.xa U.len U.cap)) V2:=tu;generalize (((((lL.setCell ⟨sb,2,none⟩ (.int .i64 U.k)).setCell ⟨sb,3,none⟩ (.string U.t)).setCell ⟨sb,4,none⟩ (.int .i64 U.n)).setCell ⟨sb,5,none⟩ (.string U.nm)).setCell ⟨sb,6,none⟩ (.slice U.xa U.len U.cap))=w11 at *;have bw:S0 w11:=aa aU _ eQ.box;refine aK F 8 ao bw ?_
      (try simp only[aH,aP,aG])
      (try go_frame)
      refine aK F 9 ao bw ?_
      (try simp only[aH,aP,aG])
      (try go_frame)
      have d7:=eQ.st.stm.cell (k:=7) rfl;have g7:=eQ.st.stm.fz 7;have d8:=eQ.st.stm.cell (k:=8) rfl;have g8:=eQ.st.stm.fz 8;have d9:=eQ.st.stm.cell (k:=9) rfl;have g9:=eQ.st.stm.fz 9;have d10:=eQ.st.stm.cell (k:=10) rfl;have g10:=eQ.st.stm.fz 10;have d11:=eQ.st.stm.cell (k:=11) rfl;have g11:=eQ.st.stm.fz 11;refine g5 (by kernel_rfl) rfl (by kernel_rfl) (fun K4 bH=> ?_)
      go_simp;refine bH _ _ ?_
      (try simp only[aH,aP,aG])
      (try go_frame)
      have ef:=ab (eQ.put (aa HS) (eQ.st.va (aa HS) yM tu) (by rw[mS];exact ax _) (fun i hi=>lT _ _ _ _ _ hi)).st
      clear bH cO ew K4 K3 K2 F bw ao aU eD eQ yS tu yM hs9;go_wp2_with fail;go_end0;exact(aa ef).done (aa HQ)
  ·have hQ:=aa HQ
   rw[af hm] at hQ;have HQ:=ab hQ;have tT:=ab (aa HQY _ r1 (aa H3).st.rdr hm);clear hQ hm;refine(aa tT).mono ?_;rintro e w4 ⟨rfl,hb4,hR4⟩;have H3b:=ab ((aa H3).next (aa HS) hb4 hR4);have iq:=ab (aa mj w4 r1.tail hR4 ((aa HE).but2 (aa H3b).st.but (aa HTT)));clear hb4 hR4 tT H3;go_wp2_with fail;refine(aa iq).mono ?_;intro e w5 hp
   cases hq:lE C.E r1.tail with
   | error y=>
    obtain⟨er,i⟩:=y;obtain⟨an,rfl⟩:=dB hp hq;have bq:=ab ((aa H3b).st.but.trans (But2.of an));have hQ:=aa HQ;rw[hq] at hQ;simp only[dn] at hQ;have eb:=ab hQ;clear hp an hq hQ HQ;unfold aC;go_wp2_with fail;exact⟨rfl,fA (aa eb) (aa bq) rfl⟩
   | ok y=>
    obtain⟨pp,r2⟩:=y;obtain⟨an,⟨V,rfl,cE,cS⟩,cv⟩:=dC hp hq;have hQ:=aa HQ;rw[hq] at hQ;simp only[aT] at hQ;unfold sY at hQ;unfold ah at hQ;rw[aa HXF] at hQ;have HQ:=ab hQ;have hs4:=(aa H3b).st.but.size;have go:=(aa H3b).next (aa HS) an cv;have vB:=go.st.stm.cell (k:=12) rfl;have vA:=go.st.stm.cell (k:=13) rfl;have vz:=go.st.stm.cell (k:=14) rfl;have vy:=go.st.stm.cell (k:=15) rfl;have vx:=go.st.stm.cell (k:=16) rfl;have f12:=go.st.stm.fz 12;have f13:=go.st.stm.fz 13;have f14:=go.st.stm.fz 14;have f15:=go.st.stm.fz 15;have f16:=go.st.stm.fz 16;have H4:=ab (go.put (aa HS) (go.st.pa (aa HS) cE (cS.mono (by omega))) (by rw[mS];exact ax _) (fun i hi=>lT _ _ _ _ _ hi))
    clear hp an hq hQ cE cS cv go iq H3b hs4;unfold pv;unfold set5 at H4;go_wp2_with fail;clear vB vA vz vy vx f12 f13 f14 f15 f16;have HKF:=ab (fun w=>zp true false w)
    have rh:=ab (fun w=>zp true true w)
    cases hg:aM (ak C.E 0 r2) ⟨#[61]⟩
    ·have hQ:=aa HQ
     rw[ac (by rw[hg];decide)] at hQ
     simp only[aT] at hQ;have HQ:=ab hQ;have oW:=ab (aa HGN _ r2 (aa H4).st.rdr hg);clear hQ hg rh;refine(aa oW).mono ?_;rintro e w6 ⟨rfl,hb6⟩;have H6:=ab ((aa H4).below hb6);clear hb6 oW H4;go_wp2_with fail;refine(aa HKF _).mono ?_;rintro e w7 ⟨rfl,rfl⟩;have h6:=aa H6;have c1:=h6.st.stm.cell (k:=1) rfl;have f1:=h6.st.stm.fz 1;have h7:=h6.put (aa HS) (h6.st.kd (aa HS) (uO true false)) (by rw[nV];exact ax _) (fun i hi=>dm _ ⟨sb,1,none⟩ i _ hi)
     obtain⟨pT,pS,pR,pQ,pP⟩:=dD h7.box;have c7:=h7.st.stm.cell (k:=7) rfl;have c8:=h7.st.stm.cell (k:=8) rfl;have c9:=h7.st.stm.cell (k:=9) rfl;have sn:=h7.st.stm.cell (k:=10) rfl;have sj:=h7.st.stm.cell (k:=11) rfl;have f7:=h7.st.stm.fz 7;have f8:=h7.st.stm.fz 8;have f9:=h7.st.stm.fz 9;have f10:=h7.st.stm.fz 10;have f11:=h7.st.stm.fz 11;have H8:=ab (h7.put (aa HS) (h7.st.va (aa HS) h7.can h7.lie) (by rw[mS];exact ax _) (fun i hi=>lT _ _ _ _ _ hi))
     clear h6 h7;unfold set5 at H8;simp only[Nat.reduceAdd] at H8;go_wp2_with fail;go_end0;exact(aa H8).st.done (aa HQ)
    ·have hQ:=aa HQ
     rw[af hg] at hQ;have HQ:=ab hQ;have oW:=ab (aa HGY _ r2 (aa H4).st.rdr hg);clear hQ hg HKF;refine(aa oW).mono ?_;rintro e w6 ⟨rfl,hb6,hR6⟩;have H6:=ab ((aa H4).next (aa HS) hb6 hR6);clear hb6 hR6 oW H4;obtain⟨pT,pS,pR,pQ,pP⟩:=dD (aa H6).box;have re:=ab (fun w=>A2 U.k w)
     have tR:Hid (U.k=x.k):=ab (by rw[←(aa H6).can,rF])
     go_wp2_with fail
     cases kN:lU U.k
     ·rw[kN] at re
      have hQ:=aa HQ;rw[←aa tR,ac (by rw[kN];decide)] at hQ
      simp only[dn] at hQ;have HQ:=ab hQ;clear hQ kN tR;refine(aa re _).mono ?_;rintro e w7 ⟨rfl,rfl⟩;go_wp2_with fail;refine(aa HTH _).mono ?_;rintro e w7 ⟨rfl,rfl⟩;unfold aC;go_wp2_with fail;exact⟨rfl,fA (aa HQ) (aa H6).st.but rfl⟩
     ·rw[kN] at re
      have hQ:=aa HQ;rw[←aa tR,af kN] at hQ;have HQ:=ab hQ;clear hQ kN tR;refine(aa re _).mono ?_;rintro e w7 ⟨rfl,rfl⟩;clear pT pS pR pQ pP re;go_wp2_with fail;refine(aa rh _).mono ?_;rintro e w7 ⟨rfl,rfl⟩;have h6:=aa H6;have c1:=h6.st.stm.cell (k:=1) rfl;have f1:=h6.st.stm.fz 1;have h7:=h6.put (aa HS) (h6.st.kd (aa HS) (uO true true)) (by rw[nV];exact ax _) (fun i hi=>dm _ ⟨sb,1,none⟩ i _ hi)
      obtain⟨pT,pS,pR,pQ,pP⟩:=dD h7.box;have c7:=h7.st.stm.cell (k:=7) rfl;have c8:=h7.st.stm.cell (k:=8) rfl;have c9:=h7.st.stm.cell (k:=9) rfl;have sn:=h7.st.stm.cell (k:=10) rfl;have sj:=h7.st.stm.cell (k:=11) rfl;have f7:=h7.st.stm.fz 7;have f8:=h7.st.stm.fz 8;have f9:=h7.st.stm.fz 9;have f10:=h7.st.stm.fz 10;have f11:=h7.st.stm.fz 11;have H8:=ab (h7.put (aa HS) (h7.st.va (aa HS) h7.can h7.lie) (by rw[mS];exact ax _) (fun i hi=>lT _ _ _ _ _ hi))
      clear h6 h7;unfold set5 at H8;simp only[Nat.reduceAdd] at H8;go_wp2_with fail;have h8:=aa H8;clear H8 c1 f1 pT pS pR pQ pP c7 c8 c9 sn sj f7 f8 f9 f10 f11;obtain⟨w9,ic⟩:∃w9,w9=((((((w7.setCell ⟨sb,1,none⟩ (.int .i64 (uO true true))).setCell ⟨sb,7,none⟩ (.int .i64 U.k)).setCell ⟨sb,8,none⟩ (.string U.t)).setCell ⟨sb,9,none⟩ (.int .i64 U.n)).setCell ⟨sb,10,none⟩ (.string U.nm)).setCell ⟨sb,11,none⟩ (.slice U.xa U.len U.cap)):=⟨_,rfl⟩;rw[←ic] at h8 ⊢;clear ic;have H8:=ab h8;obtain⟨s0,s1,s2,s3,s4⟩:=dD h8.box;obtain⟨S0,aO⟩:∃S0:World→Prop,S0=fun w'=>w'.cell? ⟨xb,0,none⟩=some (.int .i64 U.k)∧w'.cell? ⟨xb,1,none⟩=some (.string U.t)∧w'.cell? ⟨xb,2,none⟩=some (.int .i64 U.n)∧w'.cell? ⟨xb,3,none⟩=some (.string U.nm)∧w'.cell? ⟨xb,4,none⟩=some (.slice U.xa U.len U.cap):=⟨_,rfl⟩
      have ao:=ab aO;have bw:S0 w9.drew:=by rw[aO];exact⟨s0,s1,s2,s3,s4⟩
      have aU:Hid (∀W,W.heap[xb]? =some (.cells (ai U) 24 (0,0))→S0 W):=ab (fun W h=>by rw[aO];exact dD h)
      have ro:=ab (h8.below (aW _ _).drew);have HRC:=ab (aa HXP r2.tail w9.drew (aa ro).st.rdr ((aa HE).but2 (aa ro).st.but (aa HTT)));clear aO h8;refine gZ 10 S0 ?_;intro F;refine aK F 0 ao bw ?_
      (try simp only[aH,aG])
      (try go_frame)
      refine aK F 1 ao bw ?_
      (try simp only[aH,aP,aG])
      (try go_frame)
      refine aK F 2 ao bw ?_
      (try simp only[aH,aP,aG])
      (try go_frame)
      refine aK F 3 ao bw ?_
      (try simp only[aH,aP,aG])
      (try go_frame)
      refine cg 4 (fun K2 ew=> ?_)
      go_simp;refine(aa HRC).mono ?_;intro e lL hp
      cases hq:XF r2.tail with
      | error y=>
       obtain⟨er,i⟩:=y;obtain⟨an,rfl⟩:=dB hp hq;have bq:=ab ((aa ro).st.but.trans (But2.of an));have hQ:=aa HQ;rw[hq] at hQ;simp only[dn] at hQ;have eb:=ab hQ;clear hp an hq hQ HQ;unfold aC;exact⟨rfl,fA (aa eb) (aa bq) rfl⟩
      | ok y=>
       obtain⟨yy,r9⟩:=y;obtain⟨an,⟨V2,rfl,yM,yL⟩,cv⟩:=dC hp hq;have hQ:=aa HQ;rw[hq] at hQ;simp only[aT] at hQ;have HQ:=ab hQ;have hs9:=(aa ro).st.but.size;have eD:=(aa ro).next (aa HS) an cv;have yS:bd B lL V2:=yL.mono (by omega)
       have iI:=ab eD;clear hp an hq hQ yL cv bw;unfold pv;refine ew _ _ (aa aU _ eD.box) ?_;have bw:S0 lL:=aa aU _ eD.box;refine aK F 5 ao bw ?_
       (try simp only[aH,aP,aG])
       (try go_frame)
       refine aK F 6 ao bw ?_
       (try simp only[aH,aP,aG])
       (try go_frame)
       have c2:=eD.st.stm.cell (k:=2) rfl;have f2:=eD.st.stm.fz 2;have c3:=eD.st.stm.cell (k:=3) rfl;have f3:=eD.st.stm.fz 3;have c4:=eD.st.stm.cell (k:=4) rfl;have f4:=eD.st.stm.fz 4;have c5:=eD.st.stm.cell (k:=5) rfl;have f5:=eD.st.stm.fz 5;have c6:=eD.st.stm.cell (k:=6) rfl;have f6:=eD.st.stm.fz 6;refine cg 7 (fun K3 cO=> ?_)
       go_simp;have eQ:=eD.put (aa HS) (eD.st.tg (aa HS) eD.can eD.lie) (by rw[mS];exact ax _) (fun i hi=>lT _ _ _ _ _ hi)
       have tu:bd B (set5 lL sb 2 U) V2:=yS.step (by rw[mS];exact ax _) fun i hi _=>lT _ _ _ _ _ (by omega)
       refine cO _ _ (aa aU _ eQ.box) ?_;clear bw c2 c3 c4 c5 c6 f2 f3 f4 f5 f6;have eQ:StX C B sb w (((((lL.setCell ⟨sb,2,none⟩ (.int .i64 U.k)).setCell ⟨sb,3,none⟩ (.string U.t)).setCell ⟨sb,4,none⟩ (.int .i64 U.n)).setCell ⟨sb,5,none⟩ (.string U.nm)).setCell ⟨sb,6,none⟩ (.slice U.xa U.len U.cap)) r9 _ _ xb U x:=eQ;have tu:bd B (((((lL.setCell ⟨sb,2,none⟩ (.int .i64 U.k)).setCell ⟨sb,3,none⟩ (.string U.t)).setCell ⟨sb,4,none⟩ (.int .i64 U.n)).setCell ⟨sb,5,none⟩ (.string U.nm)).setCell ⟨sb,6,none⟩ (.slice U.xa U.len U.cap)) V2:=tu;generalize (((((lL.setCell ⟨sb,2,none⟩ (.int .i64 U.k)).setCell ⟨sb,3,none⟩ (.string U.t)).setCell ⟨sb,4,none⟩ (.int .i64 U.n)).setCell ⟨sb,5,none⟩ (.string U.nm)).setCell ⟨sb,6,none⟩ (.slice U.xa U.len U.cap))=w11 at *;have bw:S0 w11:=aa aU _ eQ.box;refine aK F 8 ao bw ?_
       (try simp only[aH,aP,aG])
       (try go_frame)
       refine aK F 9 ao bw ?_
       (try simp only[aH,aP,aG])
       (try go_frame)
       have d7:=eQ.st.stm.cell (k:=7) rfl;have g7:=eQ.st.stm.fz 7;have d8:=eQ.st.stm.cell (k:=8) rfl;have g8:=eQ.st.stm.fz 8;have d9:=eQ.st.stm.cell (k:=9) rfl;have g9:=eQ.st.stm.fz 9;have d10:=eQ.st.stm.cell (k:=10) rfl;have g10:=eQ.st.stm.fz 10;have d11:=eQ.st.stm.cell (k:=11) rfl;have g11:=eQ.st.stm.fz 11;refine g5 (by kernel_rfl) rfl (by kernel_rfl) (fun K4 bH=> ?_)
       go_simp;refine bH _ _ ?_
       (try simp only[aH,aP,aG])
       (try go_frame)
       have ef:=ab (eQ.put (aa HS) (eQ.st.va (aa HS) yM tu) (by rw[mS];exact ax _) (fun i hi=>lT _ _ _ _ _ hi)).st
       clear bH cO ew K4 K3 K2 F bw ao aU eD eQ yS tu yM hs9;go_wp2_with fail;go_end0;exact(aa ef).done (aa HQ)
open Go.RowKit
theorem rA {w:World} {z:Nat} {ty:TypeId} {v0 v1 v2:Value} (h:w.heap[z]? =some (.cells #[v0,v1,v2] ty (0,0))):w.cell? ⟨z,0,none⟩=some v0∧w.cell? ⟨z,1,none⟩=some v1∧w.cell? ⟨z,2,none⟩=some v2:=by
 refine⟨?_, ?_, ?_⟩ <;> (rw[eX _ _ _ _ _ _ h];rfl)
structure StD (C:SyC) (B sb:Nat) (w W:World) (l:List Tk) (S P:SV) (tb:Nat) (t u:Tk):Prop where
 st:StR C 0 B sb w W l S P
 bt:W.heap[tb]? =some (.cells #[.int .i64 (t.k:Int),.string t.t,.int .i64 (t.a:Int)] 102 (0,0))
 bu:W.heap[tb+1]? =some (.cells #[.int .i64 (u.k:Int),.string u.t,.int .i64 (u.a:Int)] 102 (0,0))
theorem StD.below {C:SyC} {B sb tb:Nat} {w W W':World} {l:List Tk} {S P:SV} {t u:Tk} (h:StD C B sb w W l S P tb t u) (hb:Below W.heap.size W W'):StD C B sb w W' l S P tb t u:=⟨h.st.below hb,am h.bt hb,am h.bu hb⟩
section
variable {E:Nat} {P:SV} {l:List Tk}
theorem ddS_no (h:(ak E 0 l).k=0∨aM (ak E 0 l) (ah 58)=true):et E 400 P l=.ok ({P with k:=1},l):=by unfold et;rw[af h]
theorem Nt (h:¬((ak E 0 l).k=0∨aM (ak E 0 l) (ah 58)=true)) (h2:fW (ak E 0 l) mZ=true∧(ak E 1 l).k=1):et E 400 P l=dfA E P l.tail:=by unfold et;rw[ac h,af h2,dfA_eq]
theorem L1 (h:¬((ak E 0 l).k=0∨aM (ak E 0 l) (ah 58)=true)) (h2:¬(fW (ak E 0 l) mZ=true∧(ak E 1 l).k=1)) (h3:(ak E 0 l).k=1∧aM (ak E 1 l) jF=true):et E 400 P l=aR (dO E l) fun nm r=>aR (ee E jF r) fun _ q=>aR (lE E q) fun p m=>.ok ({P with k:=6,nm:=nm,pa:=p},m):=by unfold et;rw[ac h,ac h2,af h3]
theorem ddS_ev (h:¬((ak E 0 l).k=0∨aM (ak E 0 l) (ah 58)=true)) (h2:¬(fW (ak E 0 l) mZ=true∧(ak E 1 l).k=1)) (h3:¬((ak E 0 l).k=1∧aM (ak E 1 l) jF=true)):et E 400 P l=nS E 400 P l:=by unfold et;rw[ac h,ac h2,ac h3]
end
theorem iK.from {C:SyC} {o B sb:Nat} {a b c:World} {R:Sy SV} {e:Ending} (h:But2 C.z sb a b) (hp:iK C o B sb b R e c):iK C o B sb a R e c:=⟨h.trans hp.1,hp.2⟩
theorem zt {C:SyC} {l:List Tk} {B sb:Nat} {S P:SV} (w:World) (hS:SyS C B sb) (hT:SyT sb) (hR:Syr C w l 0) (hE:SyEnv C w) (hI:StIn B sb w S P) (si:B≤w.heap.size) (kM:P.tg=PT.nul) (nk:P.pa=PT.nul) (mK:P.ps=dj []) (sc:P.ls=dj []):Calls prog 54 #[.pointer (some ⟨C.z,0,none⟩),.pointer (some ⟨sb,0,none⟩)] w fun e w'=>iK C 0 B sb w (et C.E 400 P l) e w':=by
 have H0:Hid (StR C 0 B sb w w l S P):=ab (⟨But2.refl _ _ _,hR,hI⟩);have HS:=ab hS;have HTT:=ab hT;have HE:=ab hE;have HA0:=ab (zj 0 w hR (by decide))
 have HA1:=ab (fun w h=>zj (C:=C) (l:=l) (o:=0) 1 w h (by decide))
 have pj:=ab (fun W (h:StR C 0 B sb w W l S P) (hl:l≠[])=>Io W hS h.rdr h.stm (bJ si h.but.size) hl mK sc)
 have uc:=ab (fun W (h:StR C 0 B sb w W l S P)=>JO W hS hT h.rdr (hE.but2 h.but hT) h.stm (bJ si h.but.size) kM nk)
 have mj:=ab (fun w l h k=>C3 (C:=C) (l:=l) (o:=0) w h k)
 have fY:=ab (fun w l h=>vP (C:=C) (l:=l) (o:=0) w h)
 have rg:=ab (fun w l h=>sJ (C:=C) (l:=l) (o:=0) jF w h)
 obtain⟨RR,bM⟩:∃RR,RR=et C.E 400 P l:=⟨_,rfl⟩;rw[←bM];have bQ:=ab (fun h=>bM.trans (ddS_no (P:=P) h))
 have aS:=ab (fun h h2=>bM.trans (Nt (P:=P) h h2))
 have bK:=ab (fun h h2 h3=>bM.trans (L1 (P:=P) h h2 h3))
 have dJ:=ab (fun h h2 h3=>bM.trans (ddS_ev (P:=P) h h2 h3))
 have mo:=ab (fun h=>yA (E:=C.E) (l:=l) h)
 have HIT:=ab (fun s w=>um (ak C.E 0 l) s w)
 have HIU:=ab (fun s w=>um (ak C.E 1 l) s w)
 have sC:=ab (fun s w=>zm (ak C.E 0 l) s w)
 have hBs:sb < B:=hS.s;clear hR hE hI hS hT bM kM nk mK sc;unfold ah at bQ aS bK dJ;unfold mZ at aS bK dJ;unfold jF at bK dJ;unfold jF at rg;generalize ak C.E 0 l=t at *;generalize ak C.E 1 l=u at *;unfold jC at HA0 HA1 HIT HIU sC;go_enter func54,ntmps54;go_wp2_with fail;refine(aa HA0).mono ?_;rintro e w1 ⟨rfl,hb1⟩;have H1:=ab ((aa H0).below hb1);have HA1b:=ab (aa HA1 w1 (aa H1).rdr);clear hb1 HA0 HA1;go_wp2_with fail;refine(aa HA1b).mono ?_;rintro e w2 ⟨rfl,hb2⟩;have H3:=ab (show StD C B sb w ((w2.alloc (.cells #[.int .i64 (t.k:Int),.string t.t,.int .i64 (t.a:Int)] 102)).alloc (.cells #[.int .i64 (u.k:Int),.string u.t,.int .i64 (u.a:Int)] 102)) l S P w2.heap.size t u from
  ⟨((((aa H1).below hb2).below (ba _)).below (ba _)),bL (by rw[eu];omega) (aw rfl),aw (by rw[eu])⟩)
 clear hb2 HA1b H1 H0;generalize htb:w2.heap.size=tb at *;obtain⟨tc0a,tc1a,tc2a⟩:=rA (aa H3).bt;obtain⟨uc0a,uc1a,uc2a⟩:=rA (aa H3).bu
 by_cases k0:t.k=0
 ·have q0:((t.k:Int)==0)=true:=bt
  have HQ:=ab (aa bQ (.inl k0));clear k0 bQ aS bK dJ;have c1:=(aa H3).st.stm.cell (k:=1) rfl;have f1:=(aa H3).st.stm.fz 1;have H9:=ab ((aa H3).st.kd (aa HS) 1);go_wp2_with fail;go_end0;exact(aa H9).done (aa HQ)
 ·have q0:((t.k:Int)==0)=false:=bn
  cases s58:aM t ⟨#[58]⟩
  ·have mp:=ab (aa HIT ⟨#[58]⟩)
   rw[s58] at mp;have ot:Hid (¬(t.k=0∨aM t ⟨#[58]⟩=true)):=ab (fun h=>by rcases h with h | h;exact k0 h;rw[s58] at h;cases h)
   clear k0 s58;go_wp2_with fail;refine(aa mp _).mono ?_;rintro e w4 ⟨rfl,hb4⟩;have H4:=ab ((aa H3).below hb4);clear hb4;clear tc0a tc1a tc2a uc0a uc1a uc2a;obtain⟨tc0b,tc1b,tc2b⟩:=rA (aa H4).bt;obtain⟨uc0b,uc1b,uc2b⟩:=rA (aa H4).bu;have mR:=ab (aa sC ⟨#[68,69,70,73,78,69]⟩)
   cases hD:fW t ⟨#[68,69,70,73,78,69]⟩
   ·rw[hD] at mR
    have fq:Hid (¬(fW t ⟨#[68,69,70,73,78,69]⟩=true∧u.k=1)):=ab (fun h=>by have h1:=h.1;rw[hD] at h1;cases h1)
    clear hD;go_wp2_with fail;refine(aa mR _).mono ?_;rintro e w4b ⟨rfl,hb4⟩;have jx:=ab ((aa H4).below hb4);clear hb4;clear tc0b tc1b tc2b uc0b uc1b uc2b;obtain⟨tc0c,tc1c,tc2c⟩:=rA (aa jx).bt;obtain⟨uc0c,uc1c,uc2c⟩:=rA (aa jx).bu
    by_cases k1:t.k=1
    ·have q1:((t.k:Int)==1)=true:=bt
     cases hI:aM u ⟨#[58,61]⟩
     ·have j4:=ab (aa HIU ⟨#[58,61]⟩)
      rw[hI] at j4;have HQ:=ab (aa dJ (aa ot) (aa fq) (fun h=>by have h2:=h.2;rw[hI] at h2;cases h2))
      clear k1 hI;go_wp2_with fail;refine(aa j4 _).mono ?_;rintro e w5a ⟨rfl,hb5⟩;have vN:=ab ((aa jx).below hb5);clear hb5;have tB:=ab (aa uc _ (aa vN).st);go_wp2_with fail;refine(aa tB).mono ?_;intro e w9 hp;have sw:=ab (iK.from (aa vN).st.but hp)
      cases hq:nS C.E 400 P l with
      | error y=>
       obtain⟨er,i⟩:=y;have eq:=ab ((aa HQ).trans hq);obtain⟨an,rfl⟩:=yf hp hq;have ij:=ab ((aa vN).st.but.trans an);clear hp hq an;unfold aC;go_wp2_with fail;exact⟨rfl,fA (aa eq) (aa ij) rfl⟩
      | ok y=>
       obtain⟨P9,r9⟩:=y;have eq:=ab ((aa HQ).trans hq);obtain⟨an,rfl,hR9,S9,oq⟩:=ys hp hq;have HZ:=ab (And.intro ((aa vN).st.but.trans an) (And.intro hR9 oq));clear hp hq an hR9 oq;go_wp2_with fail;go_end0;exact wL (aa eq) (aa HZ).1 rfl (aa HZ).2.1 (aa HZ).2.2
     ·have j4:=ab (aa HIU ⟨#[58,61]⟩)
      rw[hI] at j4;have HQ:=ab (aa bK (aa ot) (aa fq) ⟨k1,hI⟩);clear k1 hI;go_wp2_with fail;refine(aa j4 _).mono ?_;rintro e w5a ⟨rfl,hb5⟩;have vN:=ab ((aa jx).below hb5);clear hb5;have c1:=(aa vN).st.stm.cell (k:=1) rfl;have f1:=(aa vN).st.stm.fz 1;have H6:=ab ((aa vN).st.kd (aa HS) 6);have jO:=ab (aa fY _ l (aa H6).rdr);have eE:=ab (fun t r h=>oD (t:=t) (r:=r) (aa H6).rdr h)
      go_wp2_with fail;clear c1 f1;refine(aa jO).mono ?_;intro e w6 hp
      cases hq:dO C.E l with
      | error x=>
       obtain⟨er,i⟩:=x;obtain⟨an,rfl⟩:=dB hp hq;have bq:=ab ((aa H6).but.trans (But2.of an));have hQ:=aa HQ;rw[hq] at hQ;simp only[dn] at hQ;have eb:=ab hQ;clear hp an hq hQ HQ;unfold aC;go_wp2_with fail;exact⟨rfl,fA (aa eb) (aa bq) rfl⟩
      | ok x=>
       obtain⟨t6,r6⟩:=x;obtain⟨an,rfl,cv⟩:=dC hp hq;have ja:=aa eE _ _ hq;have hQ:=aa HQ;rw[hq] at hQ;simp only[aT] at hQ;have HQ:=ab hQ;have hx:=(aa H6).next (aa HS) an cv;have cx:=hx.stm.cell (k:=17) rfl;have fx:=hx.stm.fz 17;have H7:=ab (hx.nm (aa HS) ja);have t8:=ab (aa rg _ r6 (aa H7).rdr);clear hp an hq hQ cv hx eE;go_wp2_with fail;clear cx fx;refine(aa t8).mono ?_;intro e w7 hp
       cases hq:ee C.E ⟨#[58,61]⟩ r6 with
       | error x=>
        obtain⟨er,i⟩:=x;obtain⟨an,rfl⟩:=dB hp hq;have bq:=ab ((aa H7).but.trans (But2.of an));have hQ:=aa HQ;rw[hq] at hQ;simp only[dn] at hQ;have eb:=ab hQ;clear hp an hq hQ HQ;unfold aC;go_wp2_with fail;exact⟨rfl,fA (aa eb) (aa bq) rfl⟩
       | ok x=>
        obtain⟨xu7,r7⟩:=x;obtain⟨an,rfl,cv⟩:=dC hp hq;have hQ:=aa HQ;rw[hq] at hQ;simp only[aT] at hQ;have HQ:=ab hQ;have hx:=(aa H7).next (aa HS) an cv;have H8:=ab hx;have HP8:=ab (aa mj _ r7 hx.rdr ((aa HE).but2 hx.but (aa HTT)));clear hp an hq hQ cv hx;go_wp2_with fail;refine(aa HP8).mono ?_;intro e w8 hp
        cases hq:lE C.E r7 with
        | error x=>
         obtain⟨er,i⟩:=x;obtain⟨an,rfl⟩:=dB hp hq;have bq:=ab ((aa H8).but.trans (But2.of an));have hQ:=aa HQ;rw[hq] at hQ;simp only[dn] at hQ;have eb:=ab hQ;clear hp an hq hQ HQ;unfold aC;go_wp2_with fail;exact⟨rfl,fA (aa eb) (aa bq) rfl⟩
        | ok x=>
         obtain⟨pp,r8⟩:=x;obtain⟨an,⟨V,rfl,cE,cS⟩,cv⟩:=dC hp hq;have hQ:=aa HQ;rw[hq] at hQ;simp only[aT] at hQ;have HQ:=ab hQ;have hx:=(aa H8).next (aa HS) an cv;have hs8:=(aa H8).but.size;have vB:=hx.stm.cell (k:=12) rfl;have f12:=hx.stm.fz 12;have vA:=hx.stm.cell (k:=13) rfl;have f13:=hx.stm.fz 13;have vz:=hx.stm.cell (k:=14) rfl;have f14:=hx.stm.fz 14;have vy:=hx.stm.cell (k:=15) rfl;have f15:=hx.stm.fz 15;have vx:=hx.stm.cell (k:=16) rfl;have f16:=hx.stm.fz 16;have iI:=ab (hx.pa (aa HS) cE (cS.mono (by omega)))
         clear hp an hq hQ cE cS cv hx hs8;unfold pv;unfold set5 at iI;go_wp2_with fail;go_end0;exact(aa iI).done (aa HQ)
    ·have q1:((t.k:Int)==1)=false:=bn
     have HQ:=ab (aa dJ (aa ot) (aa fq) (fun h=>k1 h.1))
     clear k1;have tB:=ab (aa uc _ (aa jx).st);go_wp2_with fail;refine(aa tB).mono ?_;intro e w9 hp;have sw:=ab (iK.from (aa jx).st.but hp)
     cases hq:nS C.E 400 P l with
     | error y=>
      obtain⟨er,i⟩:=y;have eq:=ab ((aa HQ).trans hq);obtain⟨an,rfl⟩:=yf hp hq;have ij:=ab ((aa jx).st.but.trans an);clear hp hq an;unfold aC;go_wp2_with fail;exact⟨rfl,fA (aa eq) (aa ij) rfl⟩
     | ok y=>
      obtain⟨P9,r9⟩:=y;have eq:=ab ((aa HQ).trans hq);obtain⟨an,rfl,hR9,S9,oq⟩:=ys hp hq;have HZ:=ab (And.intro ((aa jx).st.but.trans an) (And.intro hR9 oq));clear hp hq an hR9 oq;go_wp2_with fail;go_end0;exact wL (aa eq) (aa HZ).1 rfl (aa HZ).2.1 (aa HZ).2.2
   ·rw[hD] at mR
    by_cases ku:u.k=1
    ·have qu:((u.k:Int)==1)=true:=bt
     have HQ:=ab (aa aS (aa ot) ⟨hD,ku⟩);have HK1:Hid (t.k=1):=ab (by unfold fW at hD;simp only[tj,decide_eq_true_eq] at hD;exact hD.1)
     clear ku hD;go_wp2_with fail;refine(aa mR _).mono ?_;rintro e w4b ⟨rfl,hb4⟩;have jx:=ab ((aa H4).below hb4);clear hb4;clear tc0b tc1b tc2b uc0b uc1b uc2b;obtain⟨tc0c,tc1c,tc2c⟩:=rA (aa jx).bt;obtain⟨uc0c,uc1c,uc2c⟩:=rA (aa jx).bu;have tB:=ab (aa pj _ (aa jx).st (aa mo (by rw[aa HK1];decide)))
     go_wp2_with fail;refine(aa tB).mono ?_;intro e w9 hp;have sw:=ab (iK.from (aa jx).st.but hp)
     cases hq:dfA C.E P l.tail with
     | error y=>
      obtain⟨er,i⟩:=y;have eq:=ab ((aa HQ).trans hq);obtain⟨an,rfl⟩:=yf hp hq;have ij:=ab ((aa jx).st.but.trans an);clear hp hq an;unfold aC;go_wp2_with fail;exact⟨rfl,fA (aa eq) (aa ij) rfl⟩
     | ok y=>
      obtain⟨P9,r9⟩:=y;have eq:=ab ((aa HQ).trans hq);obtain⟨an,rfl,hR9,S9,oq⟩:=ys hp hq;have HZ:=ab (And.intro ((aa jx).st.but.trans an) (And.intro hR9 oq));clear hp hq an hR9 oq;go_wp2_with fail;go_end0;exact wL (aa eq) (aa HZ).1 rfl (aa HZ).2.1 (aa HZ).2.2
    ·have qu:((u.k:Int)==1)=false:=bn
     have fq:Hid (¬(fW t ⟨#[68,69,70,73,78,69]⟩=true∧u.k=1)):=ab (fun h=>ku h.2)
     clear ku hD;go_wp2_with fail;refine(aa mR _).mono ?_;rintro e w4b ⟨rfl,hb4⟩;have jx:=ab ((aa H4).below hb4);clear hb4;clear tc0b tc1b tc2b uc0b uc1b uc2b;obtain⟨tc0c,tc1c,tc2c⟩:=rA (aa jx).bt;obtain⟨uc0c,uc1c,uc2c⟩:=rA (aa jx).bu
     by_cases k1:t.k=1
     ·have q1:((t.k:Int)==1)=true:=bt
      cases hI:aM u ⟨#[58,61]⟩
      ·have j4:=ab (aa HIU ⟨#[58,61]⟩)
       rw[hI] at j4;have HQ:=ab (aa dJ (aa ot) (aa fq) (fun h=>by have h2:=h.2;rw[hI] at h2;cases h2))
       clear k1 hI;go_wp2_with fail;refine(aa j4 _).mono ?_;rintro e w5b ⟨rfl,hb5⟩;have vM:=ab ((aa jx).below hb5);clear hb5;have tB:=ab (aa uc _ (aa vM).st);go_wp2_with fail;refine(aa tB).mono ?_;intro e w9 hp;have sw:=ab (iK.from (aa vM).st.but hp)
       cases hq:nS C.E 400 P l with
       | error y=>
        obtain⟨er,i⟩:=y;have eq:=ab ((aa HQ).trans hq);obtain⟨an,rfl⟩:=yf hp hq;have ij:=ab ((aa vM).st.but.trans an);clear hp hq an;unfold aC;go_wp2_with fail;exact⟨rfl,fA (aa eq) (aa ij) rfl⟩
       | ok y=>
        obtain⟨P9,r9⟩:=y;have eq:=ab ((aa HQ).trans hq);obtain⟨an,rfl,hR9,S9,oq⟩:=ys hp hq;have HZ:=ab (And.intro ((aa vM).st.but.trans an) (And.intro hR9 oq));clear hp hq an hR9 oq;go_wp2_with fail;go_end0;exact wL (aa eq) (aa HZ).1 rfl (aa HZ).2.1 (aa HZ).2.2
      ·have j4:=ab (aa HIU ⟨#[58,61]⟩)
       rw[hI] at j4;have HQ:=ab (aa bK (aa ot) (aa fq) ⟨k1,hI⟩);clear k1 hI;go_wp2_with fail;refine(aa j4 _).mono ?_;rintro e w5b ⟨rfl,hb5⟩;have vM:=ab ((aa jx).below hb5);clear hb5;have c1:=(aa vM).st.stm.cell (k:=1) rfl;have f1:=(aa vM).st.stm.fz 1;have H6:=ab ((aa vM).st.kd (aa HS) 6);have jO:=ab (aa fY _ l (aa H6).rdr);have eE:=ab (fun t r h=>oD (t:=t) (r:=r) (aa H6).rdr h)
       go_wp2_with fail;clear c1 f1;refine(aa jO).mono ?_;intro e w6 hp
       cases hq:dO C.E l with
       | error x=>
        obtain⟨er,i⟩:=x;obtain⟨an,rfl⟩:=dB hp hq;have bq:=ab ((aa H6).but.trans (But2.of an));have hQ:=aa HQ;rw[hq] at hQ;simp only[dn] at hQ;have eb:=ab hQ;clear hp an hq hQ HQ;unfold aC;go_wp2_with fail;exact⟨rfl,fA (aa eb) (aa bq) rfl⟩
       | ok x=>
        obtain⟨t6,r6⟩:=x;obtain⟨an,rfl,cv⟩:=dC hp hq;have ja:=aa eE _ _ hq;have hQ:=aa HQ;rw[hq] at hQ;simp only[aT] at hQ;have HQ:=ab hQ;have hx:=(aa H6).next (aa HS) an cv;have cx:=hx.stm.cell (k:=17) rfl;have fx:=hx.stm.fz 17;have H7:=ab (hx.nm (aa HS) ja);have t8:=ab (aa rg _ r6 (aa H7).rdr);clear hp an hq hQ cv hx eE;go_wp2_with fail;clear cx fx;refine(aa t8).mono ?_;intro e w7 hp
        cases hq:ee C.E ⟨#[58,61]⟩ r6 with
        | error x=>
         obtain⟨er,i⟩:=x;obtain⟨an,rfl⟩:=dB hp hq;have bq:=ab ((aa H7).but.trans (But2.of an));have hQ:=aa HQ;rw[hq] at hQ;simp only[dn] at hQ;have eb:=ab hQ;clear hp an hq hQ HQ;unfold aC;go_wp2_with fail;exact⟨rfl,fA (aa eb) (aa bq) rfl⟩
        | ok x=>
         obtain⟨xu7,r7⟩:=x;obtain⟨an,rfl,cv⟩:=dC hp hq;have hQ:=aa HQ;rw[hq] at hQ;simp only[aT] at hQ;have HQ:=ab hQ;have hx:=(aa H7).next (aa HS) an cv;have H8:=ab hx;have HP8:=ab (aa mj _ r7 hx.rdr ((aa HE).but2 hx.but (aa HTT)));clear hp an hq hQ cv hx;go_wp2_with fail;refine(aa HP8).mono ?_;intro e w8 hp
         cases hq:lE C.E r7 with
         | error x=>
          obtain⟨er,i⟩:=x;obtain⟨an,rfl⟩:=dB hp hq;have bq:=ab ((aa H8).but.trans (But2.of an));have hQ:=aa HQ;rw[hq] at hQ;simp only[dn] at hQ;have eb:=ab hQ;clear hp an hq hQ HQ;unfold aC;go_wp2_with fail;exact⟨rfl,fA (aa eb) (aa bq) rfl⟩
         | ok x=>
          obtain⟨pp,r8⟩:=x;obtain⟨an,⟨V,rfl,cE,cS⟩,cv⟩:=dC hp hq;have hQ:=aa HQ;rw[hq] at hQ;simp only[aT] at hQ;have HQ:=ab hQ;have hx:=(aa H8).next (aa HS) an cv;have hs8:=(aa H8).but.size;have vB:=hx.stm.cell (k:=12) rfl;have f12:=hx.stm.fz 12;have vA:=hx.stm.cell (k:=13) rfl;have f13:=hx.stm.fz 13;have vz:=hx.stm.cell (k:=14) rfl;have f14:=hx.stm.fz 14;have vy:=hx.stm.cell (k:=15) rfl;have f15:=hx.stm.fz 15;have vx:=hx.stm.cell (k:=16) rfl;have f16:=hx.stm.fz 16;have iI:=ab (hx.pa (aa HS) cE (cS.mono (by omega)))
          clear hp an hq hQ cE cS cv hx hs8;unfold pv;unfold set5 at iI;go_wp2_with fail;go_end0;exact(aa iI).done (aa HQ)
     ·have q1:((t.k:Int)==1)=false:=bn
      have HQ:=ab (aa dJ (aa ot) (aa fq) (fun h=>k1 h.1))
      clear k1;have tB:=ab (aa uc _ (aa jx).st);go_wp2_with fail;refine(aa tB).mono ?_;intro e w9 hp;have sw:=ab (iK.from (aa jx).st.but hp)
      cases hq:nS C.E 400 P l with
      | error y=>
       obtain⟨er,i⟩:=y;have eq:=ab ((aa HQ).trans hq);obtain⟨an,rfl⟩:=yf hp hq;have ij:=ab ((aa jx).st.but.trans an);clear hp hq an;unfold aC;go_wp2_with fail;exact⟨rfl,fA (aa eq) (aa ij) rfl⟩
      | ok y=>
       obtain⟨P9,r9⟩:=y;have eq:=ab ((aa HQ).trans hq);obtain⟨an,rfl,hR9,S9,oq⟩:=ys hp hq;have HZ:=ab (And.intro ((aa jx).st.but.trans an) (And.intro hR9 oq));clear hp hq an hR9 oq;go_wp2_with fail;go_end0;exact wL (aa eq) (aa HZ).1 rfl (aa HZ).2.1 (aa HZ).2.2
  ·have mp:=ab (aa HIT ⟨#[58]⟩)
   rw[s58] at mp;have HQ:=ab (aa bQ (.inr s58));clear k0 s58 bQ aS bK dJ;go_wp2_with fail;refine(aa mp _).mono ?_;rintro e w4 ⟨rfl,hb4⟩;have H4:=ab ((aa H3).below hb4);clear hb4;clear tc0a tc1a tc2a uc0a uc1a uc2a;have c1:=(aa H4).st.stm.cell (k:=1) rfl;have f1:=(aa H4).st.stm.fz 1;have H9:=ab ((aa H4).st.kd (aa HS) 1);go_wp2_with fail;go_end0;exact(aa H9).done (aa HQ)
end Go.Proofs.YtlmnjbipfacniaaGreatDoor
