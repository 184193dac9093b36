/- The reader of lines: a whole line's tokens. What strings.Has -/
import Derived.Test.YtlmnjbipfacniaaGreatDoorSyU0M
import Derived.Below
import Derived.Shelf.LaysM
import Derived.Shelf.Strings.Prefix
import Derived.Test.YtlmnjbipfacniaaGreatDoorProg
import Derived.Test.YtlmnjbipfacniaaGreatDoorLexRepLibM
import Derived.Test.YtlmnjbipfacniaaGreatDoorSyKM
import Derived.Test.YtlmnjbipfacniaaGreatDoorStAM
import Derived.Test.YtlmnjbipfacniaaGreatDoorPatBaseM
import Derived.Test.YtlmnjbipfacniaaGreatDoorLxWalkBM
set_option maxRecDepth 100000
set_option maxHeartbeats 8000000
namespace Go.Proofs.YtlmnjbipfacniaaGreatDoor
open Go.Proofs.Tryz
open Go.RowKit
structure SyW (w:World):Prop where
 sh:dI w
 shx:gP w
 sh0:w.cell? ⟨0,1,none⟩=some (.int .i64 0)
 er:∃te pe,w.cell? ⟨9,0,none⟩=some (.iface te pe)
theorem SyW.later {w w':World} (h:SyW w) (hb:Below w.heap.size w w'):SyW w':=⟨h.sh.later hb,h.shx.later hb,av hb h.sh0,by obtain⟨te,pe,q⟩:=h.er;exact⟨te,pe,av hb q⟩⟩
theorem SyW.l1 {w:World} (h:SyW w):(1:Nat) < w.heap.size:=h.sh.lt
theorem SyW.l2 {w:World} (h:SyW w):(0:Nat) < w.heap.size:=de _ _ h.sh0
theorem SyW.l3 {w:World} (h:SyW w):(9:Nat) < w.heap.size:=by obtain⟨te,pe,q⟩:=h.er;exact de _ _ q
structure SyTk (w:World) (v:Value) (l:List Tk) (g:Nat):Prop where
 row:∃xa cap off,v=.slice xa l.length cap∧l.length≤cap∧cap≤maxLen∧(l≠[]→xa=some ⟨g,off,none⟩)∧wm w g off l
 lt:g < w.heap.size
 sm:∀t ∈ l,uR t
structure RaB (w:World) (B:Nat) (W:World):Prop where
 bel:Below B w W
 sbox:BoxS B W
 fbox:W.heap[B+1]? =some (.cells #[.int .i64 0,.int .i64 0] 36 (0,0))
theorem RaB.but2 {w W W':World} {B z:Nat} (h:RaB w B W) (hb:But2 z B W W') (hz:B+1 < z):RaB w B W':=by
 have hs:=(bC.1 h.fbox).1;exact⟨⟨hb.os.trans h.bel.os,hb.tape.trans h.bel.tape,hb.output.trans h.bel.output,bJ h.bel.size hb.size,fun k hk=>(hb.block k (by omega) (by omega) (by omega)).trans (h.bel.block k hk)⟩,hb.box (by omega) h.sbox,(hb.block (B+1) hs (by omega) (by omega)).trans h.fbox⟩
theorem RaB.below {w W W':World} {B:Nat} (h:RaB w B W) (hb:Below W.heap.size W W'):RaB w B W':=by
 obtain⟨C,h1,h2,h3⟩:=h.sbox;exact⟨h.bel.trans (hb.mono (by have:=(bC.1 h1).1;omega)),⟨C,am h1 hb,h2,h3⟩,am h.fbox hb⟩
theorem Lj {w w0 w1:World} {B g:Nat} {s:ByteArray} {l:List Tk} {xa:Option Addr} {cap off:Nat} (hB:B=w.heap.size) (h0:Below B w w0∧w0.heap[B+1]? =some (.cells #[.int .i64 0,.int .i64 0] 36 (0,0))∧w0.heap[B]? =some (.cells bh.cells 30 (0,0))) (ay:w0.heap.size=B+1+1)
  (hM:MI w1 w0.heap.size 6 wk) (hb1:Below w0.heap.size w0 w1) (hW:SyW w) (hs:s.size≤2000) (hk:(l.length≤cap∧cap≤maxLen∧(l≠[]→xa=some ⟨g,off,none⟩)∧wm w g off l)∧g < w.heap.size∧∀t ∈ l,uR t)
  {w2:World} {z:Nat} {C:SyC} (hz:z=w1.heap.size) (gH:w2=w1.alloc (.cells #[.slice xa l.length cap,.int .i64 (s.size:Int),.int .i64 0,.map (some w0.heap.size)] 105)) (hC:C=⟨z,s.size,g,w0.heap.size,6⟩):
  SyS C (z+1) B∧SyT B∧StR C 0 (z+1) B w2 w2 l bh bh∧SyEnv C w2∧RaB w B w2∧B+1 < z∧z+1≤w2.heap.size:=by
 subst hC hz;obtain⟨aZ,qP,lN⟩:=h0;obtain⟨⟨k1,k2,k3,k4⟩,hg,iR⟩:=hk;have hm:=hM.lt;have hb2:Below w1.heap.size w1 w2:=by rw[gH];exact ba _
 have e2:w2.heap.size=w1.heap.size+1:=by rw[gH,eu]
 have lj:w2.heap[B]? =some (.cells bh.cells 30 (0,0)):=am (am lN hb1) hb2;have iF:w2.heap[B+1]? =some (.cells #[.int .i64 0,.int .i64 0] 36 (0,0)):=am (am qP hb1) hb2;have l1:=hW.l1;have l2:=hW.l2;have l3:=hW.l3;have bD:Below B w w2:=(aZ.trans (hb1.mono (by omega))).trans (hb2.mono (by omega))
 have mP:=hW.later (hB▸bD);have hR:Syr ⟨w1.heap.size,s.size,g,w0.heap.size,6⟩ w2 l 0:=by
  refine⟨⟨xa,cap,off,by rw[gH];exact aw rfl,k1,k2,k3,fun i t ht=> ?_⟩,hM.below (hb2.block _ hm),by show g < w2.heap.size;omega,by show g≠w1.heap.size;omega,by show w0.heap.size≠w1.heap.size;omega,iR,hs⟩
  have q:∀o,w2.cell? ⟨g,o,none⟩=w.cell? ⟨g,o,none⟩:=fun o=>by unfold World.cell?;rw[bD.block g (by omega)]
  rw[q,q,q];exact k4 i t ht
 refine⟨⟨by show w1.heap.size < _;omega,by omega,by show B≠w1.heap.size;omega,by show B≠g;omega,by show B≠w0.heap.size;omega⟩,⟨by omega,by omega,by omega⟩,⟨But2.refl _ _ _,hR,zSV_in _ lj⟩,⟨mP.sh,mP.shx,mP.sh0,mP.er,by show w1.heap.size≠_;omega,by show w1.heap.size≠_;omega,by show w1.heap.size≠_;omega⟩,⟨bD,⟨_,lj,rfl,SV.cells_one bh⟩,iF⟩,by omega,by omega⟩
theorem Hj (s:ByteArray) (h:0 < s.size) (W:World):(Instr.index 9 (.string s) (.int .i64 0)).run prog W=.ok (.int .u8 (aj s 0:Int)) W:=by
 have e:aj s 0=(s[0]).toNat:=by
  unfold aj;have hl:0 < s.data.toList.length:=by simpa using h
  rw[AA,jH hl];rfl
 rw[e];simp[Instr.index,asIntOf,run_underlying underlying9,go_sem,h]
structure RaS (C:SyC) (z B:Nat) (w w2 W:World) (l:List Tk) (S P:SV):Prop where
 st:StR C 0 (z+1) B w2 W l S P
 bx:RaB w B W
def RaQ (C:SyC) (z B:Nat) (w w2:World) (R:Sy SV) (e:Ending) (W':World):Prop:=match R with | .ok x=>e=.returned (.tuple #[])∧∃S',RaS C z B w w2 W' x.2 S' x.1 | .error x=>e=aC x.1 x.2
theorem RaS.post {C:SyC} {z B:Nat} {w w2 W W':World} {l:List Tk} {S P:SV} {R:Sy SV} {e:Ending} (h:RaS C z B w w2 W l S P) (hz:C.z=z) (au:B+1 < z) (hp:iK C 0 (z+1) B W R e W'):RaB w B W'∧But2 C.z B w2 W'∧RaQ C z B w w2 R e W':=by
 have hb:=h.bx.but2 (z:=C.z) hp.1 (by omega)
 refine⟨hb,h.st.but.trans hp.1, ?_⟩
 cases R with
 | error x=>exact hp.2
 | ok x=>
  obtain⟨h1,h2,S',h3⟩:=hp.2;exact⟨h1,S',⟨h.st.but.trans hp.1,h2,h3⟩,hb⟩
theorem Hw (s:ByteArray) (l:List Tk) (v:Value) (g:Nat) (w:World) (hs:s.size≤2000) (hW:SyW w) (hT:SyTk w v l g):Calls prog 23 #[.string s,v] w fun e w'=>Cu s l w e w':=by
 have hmf:∀(fn:Fn) (first cap:Array Value) (w:World),(Instr.makeFunc fn first cap).run prog w=.ok (.func fn first cap) w:=fun _ _ _ _=>rfl
 obtain⟨⟨xa,cap,off,rfl,dM,j2,og,mb⟩,hg,iR⟩:=hT;obtain⟨B,hB⟩:∃B,B=w.heap.size:=⟨_,rfl⟩;obtain⟨w0,gh⟩:∃w0,w0=(w.alloc (.cells bh.cells 30)).alloc (.cells #[.int .i64 0,.int .i64 0] 36):=⟨_,rfl⟩;have ay:w0.heap.size=B+1+1:=by rw[gh,hB];simp
 have aZ:Below B w w0:=by rw[gh,hB];exact(ba _).alloc (by simp) _
 have qP:w0.heap[B+1]? =some (.cells #[.int .i64 0,.int .i64 0] 36 (0,0)):=by rw[gh,hB];exact aw (by simp)
 have lN:w0.heap[B]? =some (.cells bh.cells 30 (0,0)):=by rw[gh,hB];exact bL (by simp) (aw rfl)
 have tW:=ab (Hy w0 ((hW.later (hB▸aZ)).shx));have H0:=ab (And.intro aZ (And.intro qP lN));obtain⟨RR,bM⟩:∃RR,RR=oG s l:=⟨_,rfl⟩;have kQ:Hid (∀e w',(Below B w w'∧(∀P m,RR=.ok (P,m)→∃S:SV,e=.returned (.tuple #[S.v,du 0 0])∧S.can=P∧SLies B w' S)∧(∀er a,RR=.error (er,a)→∃C:Array Value,e=.returned (.tuple #[.agg C,du er a])∧C.size=24∧C.all (·.oneCell')=true))→Cu s l w e w'):=ab (fun e w' h=>by rw[hB,bM] at h;exact h)
 have HQ:Hid (RR=aR (rK s s.size l) fun t r=>raB s {bh with lab:=t} r):=ab (bM)
 have HWD:Hid ((w.alloc (.cells bh.cells 30)).alloc (.cells #[.int .i64 0,.int .i64 0] 36)=w0):=ab (gh.symm);have lr:=ab ay;have uc:=ab (fun (W:World) (hb:Below B w W)=>hW.later (hB▸hb))
 have gM:=ab (And.intro (And.intro dM (And.intro j2 (And.intro og mb))) (And.intro hg iR));have HWW:=ab hW;have HB:=ab hB;clear aZ qP lN gh bM hW og mb iR ay hB
 -- what is thrown is caught
 have key:∀(er:Int) (a:Nat) (W:World),RR=.error (er,a)→RaB w B W→∀tmps:Array Value,tmps.getD 4 undef=.pointer (some ⟨B,0,none⟩)→tmps.getD 5 undef=.pointer (some ⟨B+1,0,none⟩)→
   bodyPostD prog Tryz.f23 (fun e w'=>Cu s l w e w')
    (Exit.panic [{v:=.iface 36 (du er a),recovered:=false}]) {tmps:=tmps,defers:=[{target:=Target.fn (Fn.func 51) #[.pointer (some ⟨B+1,0,none⟩)],args:= #[]}]} W:=by
  intro er a W hRA hR tmps ht2 ht3;obtain⟨C,h1,h2,h3⟩:=hR.sbox;refine leaves_cons (f:=51) (args:= #[.pointer (some ⟨B+1,0,none⟩)]) (by simp) (by simp[go_sem]) ?_
  refine(Hg (B+1) er a _ [] _ hR.fbox rfl).mono ?_;rintro e u' w'' ⟨rfl,rfl,rfl⟩;have l8:B≠B+1:=by omega
  refine⟨_,xV tmps _ B (B+1) C #[.int .i64 er,.int .i64 (a:Int)] ht2 ht3 ((dH W _ _ _ l8).trans h1) (cm _ _ _ _ _ _ hR.fbox) h2 rfl,aa kQ _ _ ⟨eL hR.bel _ (by omega) _,fun p j h=> ?_,fun er' a' h=> ?_⟩⟩
  ·rw[hRA] at h;cases h
  ·rw[hRA] at h
   injection h with h;injection h with h1 h2
   subst h1 h2;exact⟨C,rfl,h2,h3⟩
 have mH:=ab key;clear key;obtain⟨w0',hw0'⟩:∃w0',w0'=w0:=⟨w0,rfl⟩;clear hw0' w0';go_enter_defers func23,ntmps23;go_wp2_with fail;rw[show ((w.alloc (.cells Z24 30)).alloc (.cells #[.int .i64 0,.int .i64 0] 36))=w0 from aa HWD];rw[show w.heap.size=B from (aa HB).symm];refine(aa tW).mono ?_;rintro e w1 ⟨rfl,hM1,hb1⟩;obtain⟨z,hz⟩:∃z,z=w1.heap.size:=⟨_,rfl⟩;obtain⟨w2,gH⟩:∃w2,w2=w1.alloc (.cells #[.slice xa l.length cap,.int .i64 (s.size:Int),.int .i64 0,.map (some w0.heap.size)] 105):=⟨_,rfl⟩;obtain⟨C,hC⟩:∃C:SyC,C=⟨z,s.size,g,w0.heap.size,6⟩:=⟨_,rfl⟩;obtain⟨x1,x2,x3,x4,x5,x6,x7⟩:=Lj (off:=off) (aa HB) (aa H0) (aa lr) hM1 hb1 (aa HWW) hs (aa gM) hz gH hC;have HX:=ab (And.intro x1 (And.intro x2 (And.intro x4 (And.intro x6 x7))));have iu:Hid (C.z=z):=ab (by rw[hC])
 have H2:Hid (RaS C z B w w2 w2 l bh bh):=ab (⟨x3,x5⟩);have hCE:s.size=C.E:=by rw[hC]
 have hQ:=aa HQ;rw[hCE] at hQ;have hraB:∀S l,raB s S l=aR (et C.E 400 S l) fun S q=>aR (ge C.E S q) fun S m=>if m.length=0 then .ok (S,m) else .error (2,(ak C.E 0 m).a):=fun S l=>by unfold raB;rw[hCE]
 have qc:=ab (And.intro hQ hraB);have gL:=ab (And.intro gH hz);clear x1 x2 x3 x4 x5 x6 x7 gH hM1 hb1 hC hQ hraB HQ hz;clear H0 tW HWD gM lr hCE
 by_cases h0:s.size=0
 ·have bQ:Hid (RR=raB s bh l):=ab (by
   rw[(aa qc).1];unfold rK;rw[ac (fun q=>q.1 h0),aT];rfl)
  have bQ:=ab ((aa bQ).trans ((aa qc).2 _ _));have he:s.toList.isEmpty=true:=by rw[m7,xD];exact kJ (by simpa using h0)
  clear h0 qc;go_wp2_with fail;rw[show w1.alloc (.cells #[.slice xa l.length cap,.int .i64 (s.size:Int),.int .i64 0,.map (some w0.heap.size)] 105)=w2 from (aa gL).1.symm];rw[show w1.heap.size=z from (aa gL).2.symm];clear gL;have HA:Hid (RR=aR (et C.E 400 bh l) fun S q=>aR (ge C.E S q) fun S m=>if m.length=0 then .ok (S,m) else .error (2,(ak C.E 0 m).a)):=ab (aa bQ)
  have HD:Hid (Calls prog 54 #[.pointer (some ⟨z,0,none⟩),.pointer (some ⟨B,0,none⟩)] w2 fun e w'=>iK C 0 (z+1) B w2 (et C.E 400 bh l) e w'):=ab (by
   have q:=zt (B:=z+1) (S:=_) w2 (aa HX).1 (aa HX).2.1 (aa H2).st.rdr ((aa HX).2.2.1.but2 (aa H2).st.but (aa HX).2.1) (aa H2).st.stm (bJ (aa HX).2.2.2.2 (aa H2).st.but.size) rfl rfl rfl rfl;rw[aa iu] at q;exact q)
  clear bQ;refine(aa HD).mono ?_;intro e w5 hp;obtain⟨qF,wy,iD⟩:=(aa H2).post (aa iu) (aa HX).2.2.2.1 hp;clear hp HD
  cases fj:et C.E 400 bh l with
  | error x=>
   obtain⟨er,i⟩:=x;rw[fj] at iD;have iD:e=aC er i:=iD;subst iD;have hE:=aa HA;rw[fj,dn] at hE;clear fj;unfold aC;go_wp2_with fail;exact aa mH er i w5 hE qF _ rfl rfl
  | ok x=>
   obtain⟨P5,l5⟩:=x;rw[fj] at iD;obtain⟨he5,S5,h5⟩:=iD;subst he5;have H5:=ab h5;have hE:=aa HA;rw[fj,aT] at hE;have nG:=ab hE;have HY:Hid (Calls prog 55 #[.pointer (some ⟨z,0,none⟩),.pointer (some ⟨B,0,none⟩)] w5 fun e w'=>iK C 0 (z+1) B w5 (ge C.E P5 l5) e w'):=ab (by
    have q:=zc (B:=z+1) w5 (aa HX).1 h5.st.rdr h5.st.stm;rw[aa iu] at q;exact q)
   clear fj h5 qF wy hE HA;go_wp2_with fail;refine(aa HY).mono ?_;intro e w6 hp;obtain⟨na,ww,dV⟩:=(aa H5).post (aa iu) (aa HX).2.2.2.1 hp;clear hp HY
   cases hr6:ge C.E P5 l5 with
   | error x=>
    obtain⟨er,i⟩:=x;rw[hr6] at dV;have dV:e=aC er i:=dV;subst dV;have hE:=aa nG;rw[hr6,dn] at hE;clear hr6;unfold aC;go_wp2_with fail;exact aa mH er i w6 hE na _ rfl rfl
   | ok x=>
    obtain⟨P6,l6⟩:=x;rw[hr6] at dV;obtain⟨he6,S6,h6⟩:=dV;subst he6;have hE:=aa nG;rw[hr6,aT] at hE;have H6:=ab h6;have mr:=ab hE;obtain⟨rW,cap6,off6,nc,k61,k62, -, -⟩:=h6.st.rdr.blk;rw[aa iu] at nc;have c0:w6.cell? ⟨z,0,none⟩=some (.slice rW l6.length cap6):=cr nc;have fw:Hid (Calls prog 56 #[.pointer (some ⟨z,0,none⟩)] w6 fun e w'=>e=aC 2 (ak C.E 0 l6).a∧Below w6.heap.size w6 w'):=ab (by
     have q:=rq w6 h6.st.rdr;rw[aa iu] at q;exact q)
    have lf:=ab na;clear hr6 h6 nc ww hE nG H5 na k61 k62
    by_cases hl6:l6.length=0
    ·have hE:=aa mr
     rw[af hl6] at hE;have HE:=ab hE;have q6:¬(0:Int) < (l6.length:Int):=by omega
     clear hl6 hE;obtain⟨Cs,jM⟩:∃Cs,Cs=S6.cells:=⟨_,rfl⟩;have qJ:Cs.size=24:=by rw[jM];rfl
     have oR:Cs.all (·.oneCell')=true:=by rw[jM];exact SV.cells_one S6
     have hb6:w6.heap[B]? =some (.cells Cs 30 (0,0)):=by rw[jM];exact(aa H6).st.stm.box
     have qa:Hid (SLies (z+1) w6 S6):=ab (⟨(aa H6).st.stm.txt,(aa H6).st.stm.tg,(aa H6).st.stm.va,(aa H6).st.stm.pa,(aa H6).st.stm.ps,(aa H6).st.stm.ls⟩);have gC:=ab hb6;have H16:=ab oR;have nB:=ab qJ;have kC:=ab (cm w6 B Cs Cs _ _ hb6);have rk:=ab ((dH w6 B (B+1) Cs (by omega)).trans (aa lf).fbox)
     have HF8:=ab (cm (w6.setRow B Cs) (B+1) _ #[.int .i64 0,.int .i64 0] _ _ (aa rk));have ug:=ab ((dH (w6.setRow B Cs) (B+1) B #[.int .i64 0,.int .i64 0] (by omega)).trans (aa kC))
     have gz:Hid (S6.v=.agg Cs):=ab (by rw[jM];rfl)
     have eR:Hid (S6.can=P6):=ab ((aa H6).st.stm.can);clear qJ oR hb6 jM;go_wp2_with (first
      | (refine gG rfl 30 _ rfl B rfl 30 Cs (0,0) _ (aa gC) underlying30 rfl (cn.trans (by rw[aa nB])) ?_)
      | (refine aX rfl 30 _ _ rfl B Cs rfl rfl 30 Cs (aa gC) (cn.trans (by rw[aa nB])) rfl (aa H16) ?_)
      | (refine aX rfl 36 _ _ rfl (B+1) #[.int .i64 0,.int .i64 0] rfl rfl 36 #[.int .i64 0,.int .i64 0] (by with_reducible exact aa rk) fy rfl (by simp[Value.oneCell']) ?_)
      | fail)
     (try go_frame)
     refine leaves_cons (f:=51) (args:= #[.pointer (some ⟨B+1,0,none⟩)]) (by simp) (by simp[go_sem]) ?_
     refine(zd _ _).mono ?_;rintro e u' w'' ⟨rfl,rfl,rfl⟩;refine⟨_,xV _ _ B (B+1) Cs #[.int .i64 0,.int .i64 0] rfl rfl (aa ug) (aa HF8) (aa nB) rfl,aa kQ _ _ ⟨eL (eL (aa lf).bel B (ax _) Cs) (B+1) (by omega) _,fun p' j' h=> ?_,fun er' a' h=> ?_⟩⟩
     ·rw[aa HE] at h
      injection h with h;injection h with h1 h2
      subst h1;exact⟨S6,by rw[aa gz];rfl,aa eR,(((aa qa).setRow (g:=B) (by have:=(aa HX).2.2.2.1;omega) Cs).setRow (g:=B+1) (by have:=(aa HX).2.2.2.1;omega) _).mono (by have:=(aa HX).2.2.2.1;omega)⟩
     ·rw[aa HE] at h;cases h
    ·have hE:=aa mr
     rw[ac hl6] at hE;have HE:=ab hE;have q6:(0:Int) < (l6.length:Int):=by omega
     clear hl6 hE;go_wp2_with fail;refine(aa fw).mono ?_;rintro e w7 ⟨rfl,hb7⟩;unfold aC;go_wp2_with fail;exact aa mH 2 _ w7 (aa HE) ((aa lf).below hb7) _ rfl rfl
 ·have ma:=Hj s (by omega)
  have he:s.toList.isEmpty=false:=by
   rw[m7,←Bool.not_eq_true,xD];intro q;exact h0 (by have:=aJ List.length q;simpa using this)
  have iH:Hid (rK s C.E l=if aj s 0≠32∧aj s 0≠58 then dO C.E l else .ok (ByteArray.empty,l)):=ab (by
   unfold rK
   by_cases q:aj s 0≠32∧aj s 0≠58
   ·rw[af ⟨h0,q⟩,af q]
   ·rw[ac (fun z=>q z.2),ac q])
  generalize aj s 0=b at *;clear h0
  by_cases jd:b=32
  ·have bQ:Hid (RR=raB s bh l):=ab (by rw[(aa qc).1,aa iH,ac (fun q=>q.1 jd),aT];rfl)
   have bQ:=ab ((aa bQ).trans ((aa qc).2 _ _));have q32:((b:Int) !=32)=false:=by simp;omega
   clear jd qc iH;go_wp2_with fail;rw[show w1.alloc (.cells #[.slice xa l.length cap,.int .i64 (s.size:Int),.int .i64 0,.map (some w0.heap.size)] 105)=w2 from (aa gL).1.symm];rw[show w1.heap.size=z from (aa gL).2.symm];clear gL;have HA:Hid (RR=aR (et C.E 400 bh l) fun S q=>aR (ge C.E S q) fun S m=>if m.length=0 then .ok (S,m) else .error (2,(ak C.E 0 m).a)):=ab (aa bQ)
   have HD:Hid (Calls prog 54 #[.pointer (some ⟨z,0,none⟩),.pointer (some ⟨B,0,none⟩)] w2 fun e w'=>iK C 0 (z+1) B w2 (et C.E 400 bh l) e w'):=ab (by
    have q:=zt (B:=z+1) (S:=_) w2 (aa HX).1 (aa HX).2.1 (aa H2).st.rdr ((aa HX).2.2.1.but2 (aa H2).st.but (aa HX).2.1) (aa H2).st.stm (bJ (aa HX).2.2.2.2 (aa H2).st.but.size) rfl rfl rfl rfl;rw[aa iu] at q;exact q)
   clear bQ;refine(aa HD).mono ?_;intro e w5 hp;obtain⟨qF,wy,iD⟩:=(aa H2).post (aa iu) (aa HX).2.2.2.1 hp;clear hp HD
   cases fj:et C.E 400 bh l with
   | error x=>
    obtain⟨er,i⟩:=x;rw[fj] at iD;have iD:e=aC er i:=iD;subst iD;have hE:=aa HA;rw[fj,dn] at hE;clear fj;unfold aC;go_wp2_with fail;exact aa mH er i w5 hE qF _ rfl rfl
   | ok x=>
    obtain⟨P5,l5⟩:=x;rw[fj] at iD;obtain⟨he5,S5,h5⟩:=iD;subst he5;have H5:=ab h5;have hE:=aa HA;rw[fj,aT] at hE;have nG:=ab hE;have HY:Hid (Calls prog 55 #[.pointer (some ⟨z,0,none⟩),.pointer (some ⟨B,0,none⟩)] w5 fun e w'=>iK C 0 (z+1) B w5 (ge C.E P5 l5) e w'):=ab (by
     have q:=zc (B:=z+1) w5 (aa HX).1 h5.st.rdr h5.st.stm;rw[aa iu] at q;exact q)
    clear fj h5 qF wy hE HA;go_wp2_with fail;refine(aa HY).mono ?_;intro e w6 hp;obtain⟨na,ww,dV⟩:=(aa H5).post (aa iu) (aa HX).2.2.2.1 hp;clear hp HY
    cases hr6:ge C.E P5 l5 with
    | error x=>
     obtain⟨er,i⟩:=x;rw[hr6] at dV;have dV:e=aC er i:=dV;subst dV;have hE:=aa nG;rw[hr6,dn] at hE;clear hr6;unfold aC;go_wp2_with fail;exact aa mH er i w6 hE na _ rfl rfl
    | ok x=>
     obtain⟨P6,l6⟩:=x;rw[hr6] at dV;obtain⟨he6,S6,h6⟩:=dV;subst he6;have hE:=aa nG;rw[hr6,aT] at hE;have H6:=ab h6;have mr:=ab hE;obtain⟨rW,cap6,off6,nc,k61,k62, -, -⟩:=h6.st.rdr.blk;rw[aa iu] at nc;have c0:w6.cell? ⟨z,0,none⟩=some (.slice rW l6.length cap6):=cr nc;have fw:Hid (Calls prog 56 #[.pointer (some ⟨z,0,none⟩)] w6 fun e w'=>e=aC 2 (ak C.E 0 l6).a∧Below w6.heap.size w6 w'):=ab (by
      have q:=rq w6 h6.st.rdr;rw[aa iu] at q;exact q)
     have lf:=ab na;clear hr6 h6 nc ww hE nG H5 na k61 k62
     by_cases hl6:l6.length=0
     ·have hE:=aa mr
      rw[af hl6] at hE;have HE:=ab hE;have q6:¬(0:Int) < (l6.length:Int):=by omega
      clear hl6 hE;obtain⟨Cs,jM⟩:∃Cs,Cs=S6.cells:=⟨_,rfl⟩;have qJ:Cs.size=24:=by rw[jM];rfl
      have oR:Cs.all (·.oneCell')=true:=by rw[jM];exact SV.cells_one S6
      have hb6:w6.heap[B]? =some (.cells Cs 30 (0,0)):=by rw[jM];exact(aa H6).st.stm.box
      have qa:Hid (SLies (z+1) w6 S6):=ab (⟨(aa H6).st.stm.txt,(aa H6).st.stm.tg,(aa H6).st.stm.va,(aa H6).st.stm.pa,(aa H6).st.stm.ps,(aa H6).st.stm.ls⟩);have gC:=ab hb6;have H16:=ab oR;have nB:=ab qJ;have kC:=ab (cm w6 B Cs Cs _ _ hb6);have rk:=ab ((dH w6 B (B+1) Cs (by omega)).trans (aa lf).fbox)
      have HF8:=ab (cm (w6.setRow B Cs) (B+1) _ #[.int .i64 0,.int .i64 0] _ _ (aa rk));have ug:=ab ((dH (w6.setRow B Cs) (B+1) B #[.int .i64 0,.int .i64 0] (by omega)).trans (aa kC))
      have gz:Hid (S6.v=.agg Cs):=ab (by rw[jM];rfl)
      have eR:Hid (S6.can=P6):=ab ((aa H6).st.stm.can);clear qJ oR hb6 jM;go_wp2_with (first
       | (refine gG rfl 30 _ rfl B rfl 30 Cs (0,0) _ (aa gC) underlying30 rfl (cn.trans (by rw[aa nB])) ?_)
       | (refine aX rfl 30 _ _ rfl B Cs rfl rfl 30 Cs (aa gC) (cn.trans (by rw[aa nB])) rfl (aa H16) ?_)
       | (refine aX rfl 36 _ _ rfl (B+1) #[.int .i64 0,.int .i64 0] rfl rfl 36 #[.int .i64 0,.int .i64 0] (by with_reducible exact aa rk) fy rfl (by simp[Value.oneCell']) ?_)
       | fail)
      (try go_frame)
      refine leaves_cons (f:=51) (args:= #[.pointer (some ⟨B+1,0,none⟩)]) (by simp) (by simp[go_sem]) ?_
      refine(zd _ _).mono ?_;rintro e u' w'' ⟨rfl,rfl,rfl⟩;refine⟨_,xV _ _ B (B+1) Cs #[.int .i64 0,.int .i64 0] rfl rfl (aa ug) (aa HF8) (aa nB) rfl,aa kQ _ _ ⟨eL (eL (aa lf).bel B (ax _) Cs) (B+1) (by omega) _,fun p' j' h=> ?_,fun er' a' h=> ?_⟩⟩
      ·rw[aa HE] at h
       injection h with h;injection h with h1 h2
       subst h1;exact⟨S6,by rw[aa gz];rfl,aa eR,(((aa qa).setRow (g:=B) (by have:=(aa HX).2.2.2.1;omega) Cs).setRow (g:=B+1) (by have:=(aa HX).2.2.2.1;omega) _).mono (by have:=(aa HX).2.2.2.1;omega)⟩
      ·rw[aa HE] at h;cases h
     ·have hE:=aa mr
      rw[ac hl6] at hE;have HE:=ab hE;have q6:(0:Int) < (l6.length:Int):=by omega
      clear hl6 hE;go_wp2_with fail;refine(aa fw).mono ?_;rintro e w7 ⟨rfl,hb7⟩;unfold aC;go_wp2_with fail;exact aa mH 2 _ w7 (aa HE) ((aa lf).below hb7) _ rfl rfl
  ·have q32:((b:Int) !=32)=true:=by simp;omega
   by_cases vr:b=58
   ·have bQ:Hid (RR=raB s bh l):=ab (by rw[(aa qc).1,aa iH,ac (fun q=>q.2 vr),aT];rfl)
    have bQ:=ab ((aa bQ).trans ((aa qc).2 _ _));have q58:((b:Int) !=58)=false:=by simp;omega
    clear vr jd qc iH;go_wp2_with fail;rw[show w1.alloc (.cells #[.slice xa l.length cap,.int .i64 (s.size:Int),.int .i64 0,.map (some w0.heap.size)] 105)=w2 from (aa gL).1.symm];rw[show w1.heap.size=z from (aa gL).2.symm];clear gL;have HA:Hid (RR=aR (et C.E 400 bh l) fun S q=>aR (ge C.E S q) fun S m=>if m.length=0 then .ok (S,m) else .error (2,(ak C.E 0 m).a)):=ab (aa bQ)
    have HD:Hid (Calls prog 54 #[.pointer (some ⟨z,0,none⟩),.pointer (some ⟨B,0,none⟩)] w2 fun e w'=>iK C 0 (z+1) B w2 (et C.E 400 bh l) e w'):=ab (by
     have q:=zt (B:=z+1) (S:=_) w2 (aa HX).1 (aa HX).2.1 (aa H2).st.rdr ((aa HX).2.2.1.but2 (aa H2).st.but (aa HX).2.1) (aa H2).st.stm (bJ (aa HX).2.2.2.2 (aa H2).st.but.size) rfl rfl rfl rfl;rw[aa iu] at q;exact q)
    clear bQ;refine(aa HD).mono ?_;intro e w5 hp;obtain⟨qF,wy,iD⟩:=(aa H2).post (aa iu) (aa HX).2.2.2.1 hp;clear hp HD
    cases fj:et C.E 400 bh l with
    | error x=>
     obtain⟨er,i⟩:=x;rw[fj] at iD;have iD:e=aC er i:=iD;subst iD;have hE:=aa HA;rw[fj,dn] at hE;clear fj;unfold aC;go_wp2_with fail;exact aa mH er i w5 hE qF _ rfl rfl
    | ok x=>
     obtain⟨P5,l5⟩:=x;rw[fj] at iD;obtain⟨he5,S5,h5⟩:=iD;subst he5;have H5:=ab h5;have hE:=aa HA;rw[fj,aT] at hE;have nG:=ab hE;have HY:Hid (Calls prog 55 #[.pointer (some ⟨z,0,none⟩),.pointer (some ⟨B,0,none⟩)] w5 fun e w'=>iK C 0 (z+1) B w5 (ge C.E P5 l5) e w'):=ab (by
      have q:=zc (B:=z+1) w5 (aa HX).1 h5.st.rdr h5.st.stm;rw[aa iu] at q;exact q)
     clear fj h5 qF wy hE HA;go_wp2_with fail;refine(aa HY).mono ?_;intro e w6 hp;obtain⟨na,ww,dV⟩:=(aa H5).post (aa iu) (aa HX).2.2.2.1 hp;clear hp HY
     cases hr6:ge C.E P5 l5 with
     | error x=>
      obtain⟨er,i⟩:=x;rw[hr6] at dV;have dV:e=aC er i:=dV;subst dV;have hE:=aa nG;rw[hr6,dn] at hE;clear hr6;unfold aC;go_wp2_with fail;exact aa mH er i w6 hE na _ rfl rfl
     | ok x=>
      obtain⟨P6,l6⟩:=x;rw[hr6] at dV;obtain⟨he6,S6,h6⟩:=dV;subst he6;have hE:=aa nG;rw[hr6,aT] at hE;have H6:=ab h6;have mr:=ab hE;obtain⟨rW,cap6,off6,nc,k61,k62, -, -⟩:=h6.st.rdr.blk;rw[aa iu] at nc;have c0:w6.cell? ⟨z,0,none⟩=some (.slice rW l6.length cap6):=cr nc;have fw:Hid (Calls prog 56 #[.pointer (some ⟨z,0,none⟩)] w6 fun e w'=>e=aC 2 (ak C.E 0 l6).a∧Below w6.heap.size w6 w'):=ab (by
       have q:=rq w6 h6.st.rdr;rw[aa iu] at q;exact q)
      have lf:=ab na;clear hr6 h6 nc ww hE nG H5 na k61 k62
      by_cases hl6:l6.length=0
      ·have hE:=aa mr
       rw[af hl6] at hE;have HE:=ab hE;have q6:¬(0:Int) < (l6.length:Int):=by omega
       clear hl6 hE;obtain⟨Cs,jM⟩:∃Cs,Cs=S6.cells:=⟨_,rfl⟩;have qJ:Cs.size=24:=by rw[jM];rfl
       have oR:Cs.all (·.oneCell')=true:=by rw[jM];exact SV.cells_one S6
       have hb6:w6.heap[B]? =some (.cells Cs 30 (0,0)):=by rw[jM];exact(aa H6).st.stm.box
       have qa:Hid (SLies (z+1) w6 S6):=ab (⟨(aa H6).st.stm.txt,(aa H6).st.stm.tg,(aa H6).st.stm.va,(aa H6).st.stm.pa,(aa H6).st.stm.ps,(aa H6).st.stm.ls⟩);have gC:=ab hb6;have H16:=ab oR;have nB:=ab qJ;have kC:=ab (cm w6 B Cs Cs _ _ hb6);have rk:=ab ((dH w6 B (B+1) Cs (by omega)).trans (aa lf).fbox)
       have HF8:=ab (cm (w6.setRow B Cs) (B+1) _ #[.int .i64 0,.int .i64 0] _ _ (aa rk));have ug:=ab ((dH (w6.setRow B Cs) (B+1) B #[.int .i64 0,.int .i64 0] (by omega)).trans (aa kC))
       have gz:Hid (S6.v=.agg Cs):=ab (by rw[jM];rfl)
       have eR:Hid (S6.can=P6):=ab ((aa H6).st.stm.can);clear qJ oR hb6 jM;go_wp2_with (first
        | (refine gG rfl 30 _ rfl B rfl 30 Cs (0,0) _ (aa gC) underlying30 rfl (cn.trans (by rw[aa nB])) ?_)
        | (refine aX rfl 30 _ _ rfl B Cs rfl rfl 30 Cs (aa gC) (cn.trans (by rw[aa nB])) rfl (aa H16) ?_)
        | (refine aX rfl 36 _ _ rfl (B+1) #[.int .i64 0,.int .i64 0] rfl rfl 36 #[.int .i64 0,.int .i64 0] (by with_reducible exact aa rk) fy rfl (by simp[Value.oneCell']) ?_)
        | fail)
       (try go_frame)
       refine leaves_cons (f:=51) (args:= #[.pointer (some ⟨B+1,0,none⟩)]) (by simp) (by simp[go_sem]) ?_
       refine(zd _ _).mono ?_;rintro e u' w'' ⟨rfl,rfl,rfl⟩;refine⟨_,xV _ _ B (B+1) Cs #[.int .i64 0,.int .i64 0] rfl rfl (aa ug) (aa HF8) (aa nB) rfl,aa kQ _ _ ⟨eL (eL (aa lf).bel B (ax _) Cs) (B+1) (by omega) _,fun p' j' h=> ?_,fun er' a' h=> ?_⟩⟩
       ·rw[aa HE] at h
        injection h with h;injection h with h1 h2
        subst h1;exact⟨S6,by rw[aa gz];rfl,aa eR,(((aa qa).setRow (g:=B) (by have:=(aa HX).2.2.2.1;omega) Cs).setRow (g:=B+1) (by have:=(aa HX).2.2.2.1;omega) _).mono (by have:=(aa HX).2.2.2.1;omega)⟩
       ·rw[aa HE] at h;cases h
      ·have hE:=aa mr
       rw[ac hl6] at hE;have HE:=ab hE;have q6:(0:Int) < (l6.length:Int):=by omega
       clear hl6 hE;go_wp2_with fail;refine(aa fw).mono ?_;rintro e w7 ⟨rfl,hb7⟩;unfold aC;go_wp2_with fail;exact aa mH 2 _ w7 (aa HE) ((aa lf).below hb7) _ rfl rfl
   ·have q58:((b:Int) !=58)=true:=by simp;omega
    have su:Hid (RR=aR (dO C.E l) fun t r=>raB s {bh with lab:=t} r):=ab (by rw[(aa qc).1,aa iH,af ⟨jd,vr⟩])
    have fY:Hid (Calls prog 53 #[.pointer (some ⟨z,0,none⟩)] w2 fun e w'=>fV lD C 0 w2 (dO C.E l) e w'):=ab (by
     have q:=vP w2 (aa H2).st.rdr;rw[aa iu] at q;exact q)
    have eE:=ab (fun t q h=>oD (t:=t) (r:=q) (aa H2).st.rdr h)
    clear vr jd iH;go_wp2_with fail;rw[show w1.alloc (.cells #[.slice xa l.length cap,.int .i64 (s.size:Int),.int .i64 0,.map (some w0.heap.size)] 105)=w2 from (aa gL).1.symm];rw[show w1.heap.size=z from (aa gL).2.symm];clear gL;refine(aa fY).mono ?_;intro e w3 hp;clear fY
    cases hr3:dO C.E l with
    | error x=>
     obtain⟨er,i⟩:=x;obtain⟨hb3,rfl⟩:=dB hp hr3;have hE:=aa su;rw[hr3,dn] at hE;have an:=(aa H2).bx.but2 (z:=C.z) (But2.of hb3) (by have:=(aa HX).2.2.2.1;rw[aa iu];exact this)
     clear hr3 hp;unfold aC;go_wp2_with fail;exact aa mH er i w3 hE an _ rfl rfl
    | ok x=>
     obtain⟨t,r⟩:=x;obtain⟨hb3,rfl,hR3⟩:=dC hp hr3;have hE:=aa su;rw[hr3,aT] at hE;have bQ:=ab (hE.trans ((aa qc).2 _ _));have h3:=(aa H2).st.next (aa HX).1 hb3 hR3;have c0:=h3.stm.cell (k:=0) rfl;have f0:=h3.stm.fz 0;have an:=((aa H2).bx.but2 (z:=C.z) (But2.of hb3) (by have:=(aa HX).2.2.2.1;rw[aa iu];exact this))
     have tU:=ab (aa eE t r hr3);have h4:=h3.lab (aa HX).1 (aa tU);have H4:Hid (RaS C z B w w2 (w3.setCell ⟨B,0,none⟩ (.string t)) r {bh with lab:=t} {bh with lab:=t}):=ab (⟨h4,an.but2 (z:=C.z) ((But2.refl C.z B w3).set 0 (.string t)) (by have:=(aa HX).2.2.2.1;rw[aa iu];exact this)⟩)
     clear hr3 hp hb3 hR3 hE su qc h3 an h4 eE;go_wp2_with fail;obtain⟨w4,hw4⟩:∃w4,w4=w3.setCell ⟨B,0,none⟩ (.string t):=⟨_,rfl⟩;rw[←hw4] at H4 ⊢;clear hw4 c0 f0 tU;have HA:Hid (RR=aR (et C.E 400 {bh with lab:=t} r) fun S q=>aR (ge C.E S q) fun S m=>if m.length=0 then .ok (S,m) else .error (2,(ak C.E 0 m).a)):=ab (aa bQ)
     have HD:Hid (Calls prog 54 #[.pointer (some ⟨z,0,none⟩),.pointer (some ⟨B,0,none⟩)] w4 fun e w'=>iK C 0 (z+1) B w4 (et C.E 400 {bh with lab:=t} r) e w'):=ab (by
      have q:=zt (B:=z+1) (S:=_) w4 (aa HX).1 (aa HX).2.1 (aa H4).st.rdr ((aa HX).2.2.1.but2 (aa H4).st.but (aa HX).2.1) (aa H4).st.stm (bJ (aa HX).2.2.2.2 (aa H4).st.but.size) rfl rfl rfl rfl;rw[aa iu] at q;exact q)
     clear bQ;refine(aa HD).mono ?_;intro e w5 hp;obtain⟨qF,wy,iD⟩:=(aa H4).post (aa iu) (aa HX).2.2.2.1 hp;clear hp HD
     cases fj:et C.E 400 {bh with lab:=t} r with
     | error x=>
      obtain⟨er,i⟩:=x;rw[fj] at iD;have iD:e=aC er i:=iD;subst iD;have hE:=aa HA;rw[fj,dn] at hE;clear fj;unfold aC;go_wp2_with fail;exact aa mH er i w5 hE qF _ rfl rfl
     | ok x=>
      obtain⟨P5,l5⟩:=x;rw[fj] at iD;obtain⟨he5,S5,h5⟩:=iD;subst he5;have H5:=ab h5;have hE:=aa HA;rw[fj,aT] at hE;have nG:=ab hE;have HY:Hid (Calls prog 55 #[.pointer (some ⟨z,0,none⟩),.pointer (some ⟨B,0,none⟩)] w5 fun e w'=>iK C 0 (z+1) B w5 (ge C.E P5 l5) e w'):=ab (by
       have q:=zc (B:=z+1) w5 (aa HX).1 h5.st.rdr h5.st.stm;rw[aa iu] at q;exact q)
      clear fj h5 qF wy hE HA;go_wp2_with fail;refine(aa HY).mono ?_;intro e w6 hp;obtain⟨na,ww,dV⟩:=(aa H5).post (aa iu) (aa HX).2.2.2.1 hp;clear hp HY
      cases hr6:ge C.E P5 l5 with
      | error x=>
       obtain⟨er,i⟩:=x;rw[hr6] at dV;have dV:e=aC er i:=dV;subst dV;have hE:=aa nG;rw[hr6,dn] at hE;clear hr6;unfold aC;go_wp2_with fail;exact aa mH er i w6 hE na _ rfl rfl
      | ok x=>
       obtain⟨P6,l6⟩:=x;rw[hr6] at dV;obtain⟨he6,S6,h6⟩:=dV;subst he6;have hE:=aa nG;rw[hr6,aT] at hE;have H6:=ab h6;have mr:=ab hE;obtain⟨rW,cap6,off6,nc,k61,k62, -, -⟩:=h6.st.rdr.blk;rw[aa iu] at nc;have c0:w6.cell? ⟨z,0,none⟩=some (.slice rW l6.length cap6):=cr nc;have fw:Hid (Calls prog 56 #[.pointer (some ⟨z,0,none⟩)] w6 fun e w'=>e=aC 2 (ak C.E 0 l6).a∧Below w6.heap.size w6 w'):=ab (by
        have q:=rq w6 h6.st.rdr;rw[aa iu] at q;exact q)
       have lf:=ab na;clear hr6 h6 nc ww hE nG H5 na k61 k62
       by_cases hl6:l6.length=0
       ·have hE:=aa mr
        rw[af hl6] at hE;have HE:=ab hE;have q6:¬(0:Int) < (l6.length:Int):=by omega
        clear hl6 hE;obtain⟨Cs,jM⟩:∃Cs,Cs=S6.cells:=⟨_,rfl⟩;have qJ:Cs.size=24:=by rw[jM];rfl
        have oR:Cs.all (·.oneCell')=true:=by rw[jM];exact SV.cells_one S6
        have hb6:w6.heap[B]? =some (.cells Cs 30 (0,0)):=by rw[jM];exact(aa H6).st.stm.box
        have qa:Hid (SLies (z+1) w6 S6):=ab (⟨(aa H6).st.stm.txt,(aa H6).st.stm.tg,(aa H6).st.stm.va,(aa H6).st.stm.pa,(aa H6).st.stm.ps,(aa H6).st.stm.ls⟩);have gC:=ab hb6;have H16:=ab oR;have nB:=ab qJ;have kC:=ab (cm w6 B Cs Cs _ _ hb6);have rk:=ab ((dH w6 B (B+1) Cs (by omega)).trans (aa lf).fbox)
        have HF8:=ab (cm (w6.setRow B Cs) (B+1) _ #[.int .i64 0,.int .i64 0] _ _ (aa rk));have ug:=ab ((dH (w6.setRow B Cs) (B+1) B #[.int .i64 0,.int .i64 0] (by omega)).trans (aa kC))
        have gz:Hid (S6.v=.agg Cs):=ab (by rw[jM];rfl)
        have eR:Hid (S6.can=P6):=ab ((aa H6).st.stm.can);clear qJ oR hb6 jM;go_wp2_with (first
         | (refine gG rfl 30 _ rfl B rfl 30 Cs (0,0) _ (aa gC) underlying30 rfl (cn.trans (by rw[aa nB])) ?_)
         | (refine aX rfl 30 _ _ rfl B Cs rfl rfl 30 Cs (aa gC) (cn.trans (by rw[aa nB])) rfl (aa H16) ?_)
         | (refine aX rfl 36 _ _ rfl (B+1) #[.int .i64 0,.int .i64 0] rfl rfl 36 #[.int .i64 0,.int .i64 0] (by with_reducible exact aa rk) fy rfl (by simp[Value.oneCell']) ?_)
         | fail)
        (try go_frame)
        refine leaves_cons (f:=51) (args:= #[.pointer (some ⟨B+1,0,none⟩)]) (by simp) (by simp[go_sem]) ?_
        refine(zd _ _).mono ?_;rintro e u' w'' ⟨rfl,rfl,rfl⟩;refine⟨_,xV _ _ B (B+1) Cs #[.int .i64 0,.int .i64 0] rfl rfl (aa ug) (aa HF8) (aa nB) rfl,aa kQ _ _ ⟨eL (eL (aa lf).bel B (ax _) Cs) (B+1) (by omega) _,fun p' j' h=> ?_,fun er' a' h=> ?_⟩⟩
        ·rw[aa HE] at h
         injection h with h;injection h with h1 h2
         subst h1;exact⟨S6,by rw[aa gz];rfl,aa eR,(((aa qa).setRow (g:=B) (by have:=(aa HX).2.2.2.1;omega) Cs).setRow (g:=B+1) (by have:=(aa HX).2.2.2.1;omega) _).mono (by have:=(aa HX).2.2.2.1;omega)⟩
        ·rw[aa HE] at h;cases h
       ·have hE:=aa mr
        rw[ac hl6] at hE;have HE:=ab hE;have q6:(0:Int) < (l6.length:Int):=by omega
        clear hl6 hE;go_wp2_with fail;refine(aa fw).mono ?_;rintro e w7 ⟨rfl,hb7⟩;unfold aC;go_wp2_with fail;exact aa mH 2 _ w7 (aa HE) ((aa lf).below hb7) _ rfl rfl
end Go.Proofs.YtlmnjbipfacniaaGreatDoor
namespace Go.Proofs
open Go.Shelf Go.RowKit Go.Lib
def Tryz.lays99_ren:Go.Shelf.Ren:=⟨fun | 99=>21 | 206=>46 | n=>n,fun | 9=>9 | 4=>4 | 3=>3 | n=>n,fun | n=>n⟩
theorem Tryz.lays99:Go.Proofs.Lays.n99 Tryz.prog Tryz.lays99_ren:={
 mixed:=by kernel_rfl
 f99:=Tryz.func21.trans (congrArg some (by kernel_rfl))
 f206:=Tryz.func46.trans (congrArg some (by kernel_rfl))
 t3:=Tryz.underlying3
 a3:=Tryz.isAgg3
 z3:=Tryz.sizeOf3
 v3:=Tryz.zeroValue3
 t4:=Tryz.underlying4
 a4:=Tryz.isAgg4
 z4:=Tryz.sizeOf4
 v4:=Tryz.zeroValue4
 t9:=Tryz.underlying9
 a9:=Tryz.isAgg9
 z9:=Tryz.sizeOf9
 v9:=Tryz.zeroValue9}
theorem Tryz.strings_HasPrefix (s p:ByteArray) (w:World):
  Calls Tryz.prog 21 #[.string s,.string p] w fun e w'=>e=.returned (.bool (Lib.hasPrefix s.data.toList p.data.toList))∧w'=w:=Any.strings_HasPrefix Tryz.lays99 s p w
end Go.Proofs
set_option maxRecDepth 100000
set_option maxHeartbeats 8000000
namespace Go.Proofs.YtlmnjbipfacniaaGreatDoor
open Go.Proofs.Tryz
open Go.RowKit
def Cv (s:ByteArray) (w:World) (e:Ending) (w':World):Prop:=
 Below w.heap.size w w'∧(∀er a,mC s=.error (er,a)→e=.returned (.tuple #[bh.v,.bool false,du er a]))∧(mC s=.ok none→e=.returned (.tuple #[bh.v,.bool false,du 0 0]))∧
  (∀P,mC s=.ok (some P)→∃S:SV,e=.returned (.tuple #[S.v,.bool true,du 0 0])∧S.can=P∧SLies w.heap.size w' S)
structure LnS (w:World) (B:Nat) (W:World) (C F:Array Value):Prop where
 bel:Below B w W
 s:W.heap[B]? =some (.cells C 30 (0,0))
 f:W.heap[B+1]? =some (.cells F 36 (0,0))
section
variable {w W W':World} {B:Nat} {C F:Array Value}
theorem LnS.st (h:LnS w B W C F) (D:Array Value):LnS w B (W.setRow B D) D F:=⟨eL h.bel B (ax _) D,cm _ _ _ _ _ _ h.s,(dH W B (B+1) D (by omega)).trans h.f⟩
theorem LnS.fa (h:LnS w B W C F) (D:Array Value):LnS w B (W.setRow (B+1) D) C D:=⟨eL h.bel (B+1) (by omega) D,(dH W (B+1) B D (by omega)).trans h.s,cm _ _ _ _ _ _ h.f⟩
theorem LnS.lt (h:LnS w B W C F):B+1 < W.heap.size:=(bC.1 h.f).1
theorem LnS.below (h:LnS w B W C F) (hb:Below W.heap.size W W'):LnS w B W' C F:=⟨h.bel.trans (hb.mono (by have:=h.lt;omega)),am h.s hb,am h.f hb⟩
end
theorem qh (tmps:Array Value) (W:World) (gp gf:Nat) (cs fs:Array Value) (b:Value) (h2:tmps.getD 2 undef=.pointer (some ⟨gp,0,none⟩)) (h3:tmps.getD 3 undef=b) (h4:tmps.getD 4 undef=.pointer (some ⟨gf,0,none⟩)) (hp:W.heap[gp]? =some (.cells cs 30 (0,0))) (hf:W.heap[gf]? =some (.cells fs 36 (0,0))) (kw:cs.size=24) (hfs:fs.size=2):
  (results Tryz.f8 tmps).run prog W=.ok (.tuple #[.agg cs,b,.agg fs]) W:=by
 have h2':tmps[2]?.getD undef=.pointer (some ⟨gp,0,none⟩):=by simpa using h2
 have h3':tmps[3]?.getD undef=b:=by simpa using h3
 have h4':tmps[4]?.getD undef=.pointer (some ⟨gf,0,none⟩):=by simpa using h4
 have e1:=tn (P:=prog) W gp 30 30 cs (0,0) _ hp underlying30 rfl (by rw[kw];exact cn)
 have e2:=tn (P:=prog) W gf 36 36 fs (0,0) _ hf underlying36 rfl (by rw[hfs];exact fy)
 simp[results,Tryz.results8,h2',h3',h4',asAddr,e1,e2]
theorem Lp (s:ByteArray):Lib.hasPrefix s.data.toList [42]=decide (aj s 0=42):=by
 unfold Lib.hasPrefix aj
 cases h:s.data.toList with
 | nil=>rfl
 | cons c r=>
  show ((42:UInt8)==c && List.isPrefixOf [] r)=decide (c.toNat=42);rw[show List.isPrefixOf ([]:List UInt8) r=true from by cases r <;> rfl,Bool.and_true]
  by_cases q:c=42
  ·subst q;rfl
  ·rw[dh (fun z:c.toNat=42=>q (tm.1 (z.trans rfl))),pL]
   exact fun z=>q z.symm
theorem zM (T:PT):T.can.fits=T.fits:=by unfold PT.fits;rw[Ac,Ab]
theorem Kf (s:ByteArray) (h:(gc s).2.1=0):s.size≤2000:=by
 unfold gc at h;split at h
 ·exact absurd h (by decide)
 ·omega
theorem Lf {w w':World} {v:Value} {s:ByteArray} (h:cc w' w.heap.size 102 3 nR v (gc s).1) (h0:0 < w'.heap.size):∃g,SyTk w' v (gc s).1 g∧((gc s).1=[]∨w.heap.size≤g):=by
 rcases h.2 with ⟨rfl,e0⟩ | ⟨g,cap,cur,rfl,lc,vn,eI,jr, -, -⟩
 ·refine⟨0,⟨⟨none,0,0,by rw[e0],by omega,cU _,fun q=>absurd (kJ e0) q,fun i t ht=> ?_⟩,h0,Bs s⟩,.inl (kJ e0)⟩
  rw[kJ e0] at ht;cases ht
 ·refine⟨g,⟨⟨_,cap,0,rfl,eI,jr,fun _=>rfl,fun i t ht=> ?_⟩,(bC.1 vn).1,Bs s⟩,.inr lc⟩
  rw[oI];exact⟨h.cell zN rfl ht (k:=0) rfl,h.cell zN rfl ht (k:=1) rfl,h.cell zN rfl ht (k:=2) rfl⟩
theorem SyTk.set {w:World} {v:Value} {l:List Tk} {g k:Nat} (h:SyTk w v l g) (hg:l=[]∨k < g) (D:Array Value):SyTk (w.setRow k D) v l g:=by
 obtain⟨⟨xa,cap,off,h1,h2,h3,h4,h5⟩,h6,h7⟩:=h;refine⟨⟨xa,cap,off,h1,h2,h3,h4,fun i t ht=> ?_⟩,by simpa using h6,h7⟩
 rcases hg with hg | hg
 ·subst hg;cases ht
 ·exact h5.same (dH w k g D (by omega)) i t ht
theorem gO {w:World} {g:Nat} {C:Array Value} (h:w.heap[g]? =some (.cells C 30 (0,0))) {k:Nat} {u:Value} (hk:C[k]? =some u):w.cell? ⟨g,k,none⟩=some u:=by rw[eX _ _ _ _ _ _ h];exact hk
theorem ui {o:Oper} {a:Act} {w:World} {K:Act→World→Prop} {Q:Exit→Act→World→Prop} {E:Prop} {ops:Array Oper} (qN:o.guard=none) (ty:TypeId) (x y:Operand) (ho:o.op=.store ty x y)
  (g:Nat) (cells:Array Value) (hx:a.eval x=.pointer (some ⟨g,0,none⟩)) (hy:a.eval y=.agg cells) (t:TypeId) (old:Array Value) (hg:w.heap[g]? =some (.cells old t (0,0))) (hi:(prog.info? ty).map (·.size)=some cells.size)
  (AH:old.size=cells.size) (h1:cells.all (·.oneCell')=true) (h:K (a.put o.dst undef) (w.setRow g cells)):if Region.wanted o (yielded ops a.tmps)=true then Oper.wp prog o a w K Q else E:=by
 have hw:Region.wanted o (yielded ops a.tmps)=true:=by simp[Region.wanted,qN]
 rw[af hw];exact wp_store_row ty x y ho g cells hx hy t old hg hi AH h1 h
theorem A9 (s:ByteArray) (w:World) (hs:s.size≤maxLen) (hW:SyW w) (m:Int) (hm:w.cell? ⟨2,0,none⟩=some (.int .i64 m)):Calls prog 8 #[.string s] w fun e w'=>Cv s w e w':=by
 obtain⟨B,hB⟩:∃B,B=w.heap.size:=⟨_,rfl⟩;obtain⟨w0,gh⟩:∃w0,w0=(w.alloc (.cells Z24 30)).alloc (.cells #[.int .i64 0,.int .i64 0] 36):=⟨_,rfl⟩;have H0:Hid (LnS w B w0 Z24 #[.int .i64 0,.int .i64 0]):=ab (by
  refine⟨?_, ?_, ?_⟩
  ·rw[gh,hB];exact(ba _).alloc (by simp) _
  ·rw[gh,hB];exact bL (by simp) (aw rfl)
  ·rw[gh,hB];exact aw (by simp))
 have HPF:=ab (fun W=>show Calls prog 21 #[.string s,.string ⟨#[42]⟩] W fun e w'=>e=.returned (.bool (decide (aj s 0=42)))∧w'=W from Lp s▸Tryz.strings_HasPrefix s ⟨#[42]⟩ W)
 have ua:=ab (fun W (hb:Below B w W)=>LM s W hs m (av (hB▸hb) hm))
 have ss:=ab (fun W v g h1 (hb:Below B w W) h=>Hw s (gc s).1 v g W h1 (hW.later (hB▸hb)) h)
 obtain⟨RR,bM⟩:∃RR,RR=mC s:=⟨_,rfl⟩;have kQ:=ab (show ∀e w',(Below B w w'∧(∀er a,RR=.error (er,a)→e=.returned (.tuple #[bh.v,.bool false,du er a]))∧(RR=.ok none→e=.returned (.tuple #[bh.v,.bool false,du 0 0]))∧
  (∀P,RR=.ok (some P)→∃S:SV,e=.returned (.tuple #[S.v,.bool true,du 0 0])∧S.can=P∧SLies B w' S))→Cv s w e w' from fun e w' h=>by rw[hB,bM] at h;exact h)
 have aA:∀er a W,RR=.error (er,a)→Below B w W→Cv s w (.returned (.tuple #[bh.v,.bool false,du er a])) W:=fun er a W h hb=>aa kQ _ _ ⟨hb,fun er' a' h'=>(by rw[h] at h';injection h' with h';injection h' with h1 h2;rw[h1,h2]),fun h'=>(by rw[h] at h';cases h'),fun P h'=>(by rw[h] at h';cases h')⟩
 have gV:=ab aA;have HQ:=ab (show RR=if aj s 0=42∧s.size≤2000 then .ok none else if (gc s).2.1≠0 then .error ((gc s).2.1,(gc s).2.2) else match oG s (gc s).1 with
  | .error e=>.error e
  | .ok x=>if x.1.tg.fits=true∧x.1.va.fits=true then .ok (some x.1) else .error (4,0) from bM)
 have HWD:Hid ((w.alloc (.cells Z24 30)).alloc (.cells #[.int .i64 0,.int .i64 0] 36)=w0):=ab (gh.symm);have HB:=ab hB;have mo:=ab (Kf s);have mj:=ab (fun (W W':World) (v:Value) (h:cc W' W.heap.size 102 3 nR v (gc s).1) h0=>Lf h h0)
 clear gh bM hB hs hm hW aA;unfold wV at ua;generalize (gc s).2.2=la at *;generalize eI:(gc s).2.1=le at *;clear eI;generalize (gc s).1=ll at *;go_enter func8,ntmps8;go_wp2_with fail;rw[aa HWD];rw[show w.heap.size=B from (aa HB).symm];refine(aa HPF w0).mono ?_;rintro e w0 ⟨rfl,rfl⟩;clear HPF HWD HB;generalize aj s 0=b at *
 by_cases hb:b=42
 ·rw[eW hb]
  by_cases h2:s.size≤2000
  ·have HE:Hid (RR=.ok none):=ab (by rw[aa HQ,af ⟨hb,h2⟩])
   have q2:(s.size:Int)≤2000:=by omega
   clear hb h2 HQ;have H1:=ab ((aa H0).st Z24);have H2:=ab ((aa H1).fa #[.int .i64 0,.int .i64 0]);go_wp2_with (first
    | (refine aX rfl 30 _ _ rfl B Z24 rfl rfl 30 Z24 (by with_reducible exact(aa H0).s) cn rfl (SV.cells_one bh) ?_)
    | (refine aX rfl 36 _ _ rfl (B+1) #[.int .i64 0,.int .i64 0] rfl rfl 36 #[.int .i64 0,.int .i64 0] (by with_reducible exact(aa H1).f) fy rfl (by simp[Value.oneCell']) ?_)
    | fail)
   exact ck (qh _ _ B (B+1) Z24 #[.int .i64 0,.int .i64 0] (.bool false) rfl rfl rfl (aa H2).s (aa H2).f rfl rfl) rfl (aa kQ _ _ ⟨(aa H2).bel,fun er a h=>(by rw[aa HE] at h;cases h),fun _=>rfl,fun P h=>(by rw[aa HE] at h;cases h)⟩)
  ·have bQ:=ab ((aa HQ).trans (ac (fun q=>h2 q.2)))
   have q2:(2000:Int) < (s.size:Int):=by omega
   clear hb h2 HQ;go_wp2_with fail;refine(aa ua w0 (aa H0).bel).mono ?_;rintro e w1 ⟨v,rfl,aV,hb1⟩;have H1:=ab ((aa H0).below hb1);have gM:=ab (aa mj w0 w1 v aV (by have:=(aa H1).lt;omega))
   have H2:=ab ((aa H1).fa (sX le la));have dR:=ab (aa H0).lt;clear hb1 aV ua mj;unfold sX at H2;unfold sX;obtain⟨f0,f1⟩:=jj (aa H2).f
   by_cases h0:le=0
   ·have q0:((le:Int) !=0)=false:=by simp;omega
    have aS:=ab ((aa bQ).trans (ac (fun q=>q h0)))
    have lQ:=ab (aa mo h0);clear h0 bQ mo;go_wp2_with (first
     | (refine aX rfl 36 _ _ rfl (B+1) #[.int .i64 (le:Int),.int .i64 (la:Int)] rfl rfl 36 #[.int .i64 0,.int .i64 0] (by with_reducible exact(aa H1).f) fy rfl (by simp[Value.oneCell']) ?_)
     | fail)
    obtain⟨g,hTK,lc⟩:=aa gM;have HR:=ab (aa ss _ v g (aa lQ) (aa H2).bel (hTK.set (lc.imp id fun q=>by have:=aa dR;omega) #[.int .i64 (le:Int),.int .i64 (la:Int)]))
    clear f0 f1 hTK lc gM H1 ss;generalize w1.setRow (B+1) #[.int .i64 (le:Int),.int .i64 (la:Int)]=w2 at *;refine(aa HR).mono ?_;rintro e w3 ⟨hb3,gi,qQ⟩;have H3:=ab ((aa H2).below hb3)
    cases hr:oG s ll with
    | error x=>
     obtain⟨er,i⟩:=x;obtain⟨C,rfl,qV,qU⟩:=qQ er i hr;have bY:=Cc s ll er i hr;have hE:=aa aS;rw[hr] at hE;have HE:Hid (RR=.error (er,i)):=ab (hE);have q1:(er !=0)=true:=by simp;exact bY
     have H4:=ab ((aa H3).st C);have H5:=ab ((aa H4).fa #[.int .i64 er,.int .i64 (i:Int)]);have cK:=ab qV;have lR:=ab qU;obtain⟨f0,f1⟩:=jj (aa H5).f;clear gi qQ hr hE qV qU hb3 aS HR bY;unfold du;go_wp2_with (first
      | (refine aX rfl 30 _ _ rfl B C rfl rfl 30 Z24 (by with_reducible exact(aa H3).s) (cn.trans (by rw[aa cK])) (by rw[aa cK];rfl) (aa lR) ?_)
      | (refine aX rfl 36 _ _ rfl (B+1) #[.int .i64 er,.int .i64 (i:Int)] rfl rfl 36 #[.int .i64 (le:Int),.int .i64 (la:Int)] (by with_reducible exact(aa H4).f) fy rfl (by simp[Value.oneCell']) ?_)
      | fail)
     generalize (w3.setRow B C).setRow (B+1) #[.int .i64 er,.int .i64 (i:Int)]=w5 at *;clear f0 f1;have h6:=(aa H5).st Z24;have bw:LnS w B w5.drew C #[.int .i64 er,.int .i64 (i:Int)]:=⟨(aa H5).bel.drew,(aa H5).s,(aa H5).f⟩;have lp:LnS w B (w5.drew.setRow B Z24) Z24 #[.int .i64 er,.int .i64 (i:Int)]:=bw.st Z24;have H7:=ab (lp.fa #[.int .i64 er,.int .i64 (i:Int)]);obtain⟨S0,aO⟩:∃S0:World→Prop,S0=fun W=>W.cell? ⟨B+1,0,none⟩=some (.int .i64 er)∧W.cell? ⟨B+1,1,none⟩=some (.int .i64 (i:Int)):=⟨_,rfl⟩
     have ao:=ab aO;have aU:Hid (∀W D,LnS w B W D #[.int .i64 er,.int .i64 (i:Int)]→S0 W):=ab (fun W D h=>by rw[aO];exact jj h.f)
     clear aO;have ny:=aa aU _ _ bw;refine gZ 4 S0 ?_;intro F;refine aK F 0 ao ny ?_
     (try simp only[aH,aG])
     (try go_frame)
     refine aK F 1 ao ny ?_
     (try simp only[aH,aP,aG])
     (try go_frame)
     refine cg 2 (fun K2 ew=> ?_)
     refine ui rfl 30 _ _ rfl B Z24 rfl rfl 30 C bw.s cn (aa cK) (SV.cells_one bh) ?_;have nv:=aa aU _ _ lp;refine ew _ _ nv ?_
     (try simp only[aH,aP,aG])
     (try go_frame)
     refine aK F 3 ao nv ?_
     (try simp only[aH,aP,aG])
     (try go_frame)
     refine g5 (by kernel_rfl) rfl (by kernel_rfl) (fun K4 bH=> ?_)
     refine ui rfl 36 _ _ rfl (B+1) #[.int .i64 er,.int .i64 (i:Int)] rfl rfl 36 #[.int .i64 er,.int .i64 (i:Int)] lp.f fy rfl (by simp[Value.oneCell']) ?_
     refine bH _ _ ?_
     (try simp only[aH,aP,aG])
     (try go_frame)
     clear bH ew K4 K2 F nv ny lp bw h6 aU ao;go_wp2_with fail;exact ck (qh _ _ B (B+1) Z24 #[.int .i64 er,.int .i64 (i:Int)] (.bool false) rfl rfl rfl (aa H7).s (aa H7).f rfl rfl) rfl (aa gV er i _ (aa HE) (aa H7).bel)
    | ok x=>
     obtain⟨P,m⟩:=x;obtain⟨S,rfl,cE,cS⟩:=gi P m hr;have hE:=aa aS;rw[hr] at hE;have bK:Hid (RR=if P.tg.fits=true∧P.va.fits=true then .ok (some P) else .error (4,0)):=ab (hE);have hPt:P.tg.fits=S.tg.fits:=by rw[←cE];exact zM S.tg
     have hPv:P.va.fits=S.va.fits:=by rw[←cE];exact zM S.va
     rw[hPt,hPv] at bK;have HTM:=ab (fun W (hb:Below w3.heap.size w3 W)=>sF S.tg W (PT.In.later hb cS.here.tg))
     have HVM:=ab (fun W (hb:Below w3.heap.size w3 W)=>sF S.va W (PT.In.later hb cS.here.va))
     have HLIE:=ab cS;have HCAN:=ab cE;obtain⟨C,hC⟩:∃C,C=S.cells:=⟨_,rfl⟩;have dc:S.v=.agg C:=by rw[hC];rfl
     have gz:=ab dc;have qV:C.size=24:=by rw[hC];rfl
     have qU:C.all (·.oneCell')=true:=by rw[hC];exact SV.cells_one S
     have jZ:C[2]? =some (.int .i64 S.tg.k)∧C[3]? =some (.string S.tg.t)∧C[4]? =some (.int .i64 S.tg.n)∧C[5]? =some (.string S.tg.nm)∧C[6]? =some (.slice S.tg.xa S.tg.len S.tg.cap):=by rw[hC];exact⟨rfl,rfl,rfl,rfl,rfl⟩
     have iE:C[7]? =some (.int .i64 S.va.k)∧C[8]? =some (.string S.va.t)∧C[9]? =some (.int .i64 S.va.n)∧C[10]? =some (.string S.va.nm)∧C[11]? =some (.slice S.va.xa S.va.len S.va.cap):=by rw[hC];exact⟨rfl,rfl,rfl,rfl,rfl⟩
     have cK:=ab qV;have lR:=ab qU;have ri:=ab iE;have H4:=ab ((aa H3).st C);have H5:=ab ((aa H4).fa #[.int .i64 0,.int .i64 0]);obtain⟨f0,f1⟩:=jj (aa H5).f;have s2:=gO (aa H5).s jZ.1;have s3:=gO (aa H5).s jZ.2.1;have s4:=gO (aa H5).s jZ.2.2.1;have s5:=gO (aa H5).s jZ.2.2.2.1;have s6:=gO (aa H5).s jZ.2.2.2.2;have s7:=gO (aa H5).s iE.1;have s8:=gO (aa H5).s iE.2.1;have s9:=gO (aa H5).s iE.2.2.1;have tE:=gO (aa H5).s iE.2.2.2.1;have tD:=gO (aa H5).s iE.2.2.2.2;have HB35:Hid (∀W,LnS w B W C #[.int .i64 0,.int .i64 0]→True):=ab (fun _ _=>trivial)
     have CM:w3.heap.size=((w3.setRow B C).setRow (B+1) #[.int .i64 0,.int .i64 0]).heap.size:=by simp
     have mh:Hid (S.tg.In ((w3.setRow B C).setRow (B+1) #[.int .i64 0,.int .i64 0])∧S.va.In ((w3.setRow B C).setRow (B+1) #[.int .i64 0,.int .i64 0])∧SLies (B+2) ((w3.setRow B C).setRow (B+1) #[.int .i64 0,.int .i64 0]) S):=ab (by
      have h1:=((cS.setRow (g:=B) (by have:=(aa H2).lt;omega) C).setRow (g:=B+1) (by have:=(aa H2).lt;omega) #[.int .i64 0,.int .i64 0])
      exact⟨h1.here.tg,h1.here.va,h1.mono (by have:=(aa H2).lt;omega)⟩)
     clear gi qQ hr hE qV qU hb3 aS HR hC dc jZ iE cE cS hPt hPv HTM HVM HB35 CM;rw[aa gz];unfold du;go_wp2_with (first
      | (refine aX rfl 30 _ _ rfl B C rfl rfl 30 Z24 (by with_reducible exact(aa H3).s) (cn.trans (by rw[aa cK])) (by rw[aa cK];rfl) (aa lR) ?_)
      | (refine aX rfl 36 _ _ rfl (B+1) #[.int .i64 0,.int .i64 0] rfl rfl 36 #[.int .i64 (le:Int),.int .i64 (la:Int)] (by with_reducible exact(aa H4).f) fy rfl (by simp[Value.oneCell']) ?_)
      | fail)
     clear f0 f1 s2 s3 s4 s5 s6 s7 s8 s9 tE tD;generalize (w3.setRow B C).setRow (B+1) #[.int .i64 0,.int .i64 0]=w5 at *;clear H3 H4;have oV:=ab (sF S.tg w5 (aa mh).1);unfold pv at oV
     cases hf:S.tg.fits
     ·rw[hf] at oV bK
      have HE:Hid (RR=.error (4,0)):=ab ((aa bK).trans (ac (fun q=>absurd q.1 (by decide))))
      clear bK hf;refine(aa oV).mono ?_;rintro e w6 ⟨rfl,hb6⟩;have H6:=ab ((aa H5).below hb6);have H7:=ab ((aa H6).st Z24);have H8:=ab ((aa H7).fa #[.int .i64 4,.int .i64 0]);clear hb6;go_wp2_with (first
       | (refine aX rfl 30 _ _ rfl B Z24 rfl rfl 30 C (by with_reducible exact(aa H6).s) cn (aa cK) (SV.cells_one bh) ?_)
       | (refine aX rfl 36 _ _ rfl (B+1) #[.int .i64 4,.int .i64 0] rfl rfl 36 #[.int .i64 0,.int .i64 0] (by with_reducible exact(aa H7).f) fy rfl (by simp[Value.oneCell']) ?_)
       | fail)
      exact ck (qh _ _ B (B+1) Z24 #[.int .i64 4,.int .i64 0] (.bool false) rfl rfl rfl (aa H8).s (aa H8).f rfl rfl) rfl (aa gV 4 0 _ (aa HE) (aa H8).bel)
     ·rw[hf] at oV bK
      clear hf;refine(aa oV).mono ?_;rintro e w6 ⟨rfl,hb6⟩;have H6:=ab ((aa H5).below hb6);have kS:=ab ((aa mh).2.2.below hb6);have HVC:=ab (sF S.va w6 (PT.In.later hb6 (aa mh).2.1));unfold pv at HVC;have s7:=gO (aa H6).s (aa ri).1;have s8:=gO (aa H6).s (aa ri).2.1;have s9:=gO (aa H6).s (aa ri).2.2.1;have tE:=gO (aa H6).s (aa ri).2.2.2.1;have tD:=gO (aa H6).s (aa ri).2.2.2.2;clear hb6 oV mh;go_wp2_with fail;clear s7 s8 s9 tE tD;refine(aa HVC).mono ?_;rintro e w7 ⟨rfl,hb7⟩;have H7:=ab ((aa H6).below hb7);have HL7:=ab ((aa kS).below hb7);clear hb7 HVC kS
      cases hf:S.va.fits
      ·rw[hf] at bK
       have HE:Hid (RR=.error (4,0)):=ab ((aa bK).trans (ac (fun q=>absurd q.2 (by decide))))
       clear bK hf;have H8:=ab ((aa H7).st Z24);have H9:=ab ((aa H8).fa #[.int .i64 4,.int .i64 0]);go_wp2_with (first
        | (refine aX rfl 30 _ _ rfl B Z24 rfl rfl 30 C (by with_reducible exact(aa H7).s) cn (aa cK) (SV.cells_one bh) ?_)
        | (refine aX rfl 36 _ _ rfl (B+1) #[.int .i64 4,.int .i64 0] rfl rfl 36 #[.int .i64 0,.int .i64 0] (by with_reducible exact(aa H8).f) fy rfl (by simp[Value.oneCell']) ?_)
        | fail)
       exact ck (qh _ _ B (B+1) Z24 #[.int .i64 4,.int .i64 0] (.bool false) rfl rfl rfl (aa H9).s (aa H9).f rfl rfl) rfl (aa gV 4 0 _ (aa HE) (aa H9).bel)
      ·rw[hf] at bK
       have HE:Hid (RR=.ok (some P)):=ab ((aa bK).trans (af (by simp)))
       clear bK hf;have H8:=ab ((aa H7).st C);have H9:=ab ((aa H8).fa #[.int .i64 0,.int .i64 0]);go_wp2_with (first
        | (refine gG rfl 30 _ rfl B rfl 30 C (0,0) _ (by with_reducible exact(aa H7).s) underlying30 rfl (cn.trans (by rw[aa cK])) ?_)
        | (refine aX rfl 30 _ _ rfl B C rfl rfl 30 C (by with_reducible exact(aa H7).s) (cn.trans (by rw[aa cK])) rfl (aa lR) ?_)
        | (refine aX rfl 36 _ _ rfl (B+1) #[.int .i64 0,.int .i64 0] rfl rfl 36 #[.int .i64 0,.int .i64 0] (by with_reducible exact(aa H8).f) fy rfl (by simp[Value.oneCell']) ?_)
        | fail)
       exact ck (qh _ _ B (B+1) C #[.int .i64 0,.int .i64 0] (.bool true) rfl rfl rfl (aa H9).s (aa H9).f (aa cK) rfl) rfl (aa kQ _ _ ⟨(aa H9).bel,fun er a h=>(by rw[aa HE] at h;cases h),fun h=>(by rw[aa HE] at h;cases h),fun P' h=>(by
        rw[aa HE] at h;injection h with h;injection h with h
        subst h;exact⟨S,by rw[aa gz];rfl,aa HCAN,(((aa HL7).setRow (g:=B) (by omega) C).setRow (g:=B+1) (by omega) _).mono (by omega)⟩)⟩)
   ·have q0:((le:Int) !=0)=true:=by simp;omega
    have HE:Hid (RR=.error ((le:Int),la)):=ab ((aa bQ).trans (af (fun q=>h0 (by omega))))
    clear h0 bQ mo gM ss;go_wp2_with (first
     | (refine aX rfl 36 _ _ rfl (B+1) #[.int .i64 (le:Int),.int .i64 (la:Int)] rfl rfl 36 #[.int .i64 0,.int .i64 0] (by with_reducible exact(aa H1).f) fy rfl (by simp[Value.oneCell']) ?_)
     | fail)
    clear f0 f1 H1;generalize w1.setRow (B+1) #[.int .i64 (le:Int),.int .i64 (la:Int)]=w2 at *;have h6:=(aa H2).st Z24;have bw:LnS w B w2.drew Z24 #[.int .i64 (le:Int),.int .i64 (la:Int)]:=⟨(aa H2).bel.drew,(aa H2).s,(aa H2).f⟩;have lp:LnS w B (w2.drew.setRow B Z24) Z24 #[.int .i64 (le:Int),.int .i64 (la:Int)]:=bw.st Z24;have H7:=ab (lp.fa #[.int .i64 (le:Int),.int .i64 (la:Int)]);obtain⟨S0,aO⟩:∃S0:World→Prop,S0=fun W=>W.cell? ⟨B+1,0,none⟩=some (.int .i64 (le:Int))∧W.cell? ⟨B+1,1,none⟩=some (.int .i64 (la:Int)):=⟨_,rfl⟩
    have ao:=ab aO;have aU:Hid (∀W D,LnS w B W D #[.int .i64 (le:Int),.int .i64 (la:Int)]→S0 W):=ab (fun W D h=>by rw[aO];exact jj h.f)
    clear aO;have ny:=aa aU _ _ bw;refine gZ 4 S0 ?_;intro F;refine aK F 0 ao ny ?_
    (try simp only[aH,aG])
    (try go_frame)
    refine aK F 1 ao ny ?_
    (try simp only[aH,aP,aG])
    (try go_frame)
    refine cg 2 (fun K2 ew=> ?_)
    refine ui rfl 30 _ _ rfl B Z24 rfl rfl 30 Z24 bw.s cn (rfl) (SV.cells_one bh) ?_;have nv:=aa aU _ _ lp;refine ew _ _ nv ?_
    (try simp only[aH,aP,aG])
    (try go_frame)
    refine aK F 3 ao nv ?_
    (try simp only[aH,aP,aG])
    (try go_frame)
    refine g5 (by kernel_rfl) rfl (by kernel_rfl) (fun K4 bH=> ?_)
    refine ui rfl 36 _ _ rfl (B+1) #[.int .i64 (le:Int),.int .i64 (la:Int)] rfl rfl 36 #[.int .i64 (le:Int),.int .i64 (la:Int)] lp.f fy rfl (by simp[Value.oneCell']) ?_
    refine bH _ _ ?_
    (try simp only[aH,aP,aG])
    (try go_frame)
    clear bH ew K4 K2 F nv ny lp bw h6 aU ao;go_wp2_with fail;exact ck (qh _ _ B (B+1) Z24 #[.int .i64 (le:Int),.int .i64 (la:Int)] (.bool false) rfl rfl rfl (aa H7).s (aa H7).f rfl rfl) rfl (aa gV (le:Int) la _ (aa HE) (aa H7).bel)
 ·have bQ:=ab ((aa HQ).trans (ac (fun q=>hb q.1)))
  rw[dh hb];clear hb HQ;go_wp2_with fail;refine(aa ua w0 (aa H0).bel).mono ?_;rintro e w1 ⟨v,rfl,aV,hb1⟩;have H1:=ab ((aa H0).below hb1);have gM:=ab (aa mj w0 w1 v aV (by have:=(aa H1).lt;omega))
  have H2:=ab ((aa H1).fa (sX le la));have dR:=ab (aa H0).lt;clear hb1 aV ua mj;unfold sX at H2;unfold sX;obtain⟨f0,f1⟩:=jj (aa H2).f
  by_cases h0:le=0
  ·have q0:((le:Int) !=0)=false:=by simp;omega
   have aS:=ab ((aa bQ).trans (ac (fun q=>q h0)))
   have lQ:=ab (aa mo h0);clear h0 bQ mo;go_wp2_with (first
    | (refine aX rfl 36 _ _ rfl (B+1) #[.int .i64 (le:Int),.int .i64 (la:Int)] rfl rfl 36 #[.int .i64 0,.int .i64 0] (by with_reducible exact(aa H1).f) fy rfl (by simp[Value.oneCell']) ?_)
    | fail)
   obtain⟨g,hTK,lc⟩:=aa gM;have HR:=ab (aa ss _ v g (aa lQ) (aa H2).bel (hTK.set (lc.imp id fun q=>by have:=aa dR;omega) #[.int .i64 (le:Int),.int .i64 (la:Int)]))
   clear f0 f1 hTK lc gM H1 ss;generalize w1.setRow (B+1) #[.int .i64 (le:Int),.int .i64 (la:Int)]=w2 at *;refine(aa HR).mono ?_;rintro e w3 ⟨hb3,gi,qQ⟩;have H3:=ab ((aa H2).below hb3)
   cases hr:oG s ll with
   | error x=>
    obtain⟨er,i⟩:=x;obtain⟨C,rfl,qV,qU⟩:=qQ er i hr;have bY:=Cc s ll er i hr;have hE:=aa aS;rw[hr] at hE;have HE:Hid (RR=.error (er,i)):=ab (hE);have q1:(er !=0)=true:=by simp;exact bY
    have H4:=ab ((aa H3).st C);have H5:=ab ((aa H4).fa #[.int .i64 er,.int .i64 (i:Int)]);have cK:=ab qV;have lR:=ab qU;obtain⟨f0,f1⟩:=jj (aa H5).f;clear gi qQ hr hE qV qU hb3 aS HR bY;unfold du;go_wp2_with (first
     | (refine aX rfl 30 _ _ rfl B C rfl rfl 30 Z24 (by with_reducible exact(aa H3).s) (cn.trans (by rw[aa cK])) (by rw[aa cK];rfl) (aa lR) ?_)
     | (refine aX rfl 36 _ _ rfl (B+1) #[.int .i64 er,.int .i64 (i:Int)] rfl rfl 36 #[.int .i64 (le:Int),.int .i64 (la:Int)] (by with_reducible exact(aa H4).f) fy rfl (by simp[Value.oneCell']) ?_)
     | fail)
    generalize (w3.setRow B C).setRow (B+1) #[.int .i64 er,.int .i64 (i:Int)]=w5 at *;clear f0 f1;have h6:=(aa H5).st Z24;have bw:LnS w B w5.drew C #[.int .i64 er,.int .i64 (i:Int)]:=⟨(aa H5).bel.drew,(aa H5).s,(aa H5).f⟩;have lp:LnS w B (w5.drew.setRow B Z24) Z24 #[.int .i64 er,.int .i64 (i:Int)]:=bw.st Z24;have H7:=ab (lp.fa #[.int .i64 er,.int .i64 (i:Int)]);obtain⟨S0,aO⟩:∃S0:World→Prop,S0=fun W=>W.cell? ⟨B+1,0,none⟩=some (.int .i64 er)∧W.cell? ⟨B+1,1,none⟩=some (.int .i64 (i:Int)):=⟨_,rfl⟩
    have ao:=ab aO;have aU:Hid (∀W D,LnS w B W D #[.int .i64 er,.int .i64 (i:Int)]→S0 W):=ab (fun W D h=>by rw[aO];exact jj h.f)
    clear aO;have ny:=aa aU _ _ bw;refine gZ 4 S0 ?_;intro F;refine aK F 0 ao ny ?_
    (try simp only[aH,aG])
    (try go_frame)
    refine aK F 1 ao ny ?_
    (try simp only[aH,aP,aG])
    (try go_frame)
    refine cg 2 (fun K2 ew=> ?_)
    refine ui rfl 30 _ _ rfl B Z24 rfl rfl 30 C bw.s cn (aa cK) (SV.cells_one bh) ?_;have nv:=aa aU _ _ lp;refine ew _ _ nv ?_
    (try simp only[aH,aP,aG])
    (try go_frame)
    refine aK F 3 ao nv ?_
    (try simp only[aH,aP,aG])
    (try go_frame)
    refine g5 (by kernel_rfl) rfl (by kernel_rfl) (fun K4 bH=> ?_)
    refine ui rfl 36 _ _ rfl (B+1) #[.int .i64 er,.int .i64 (i:Int)] rfl rfl 36 #[.int .i64 er,.int .i64 (i:Int)] lp.f fy rfl (by simp[Value.oneCell']) ?_
    refine bH _ _ ?_
    (try simp only[aH,aP,aG])
    (try go_frame)
    clear bH ew K4 K2 F nv ny lp bw h6 aU ao;go_wp2_with fail;exact ck (qh _ _ B (B+1) Z24 #[.int .i64 er,.int .i64 (i:Int)] (.bool false) rfl rfl rfl (aa H7).s (aa H7).f rfl rfl) rfl (aa gV er i _ (aa HE) (aa H7).bel)
   | ok x=>
    obtain⟨P,m⟩:=x;obtain⟨S,rfl,cE,cS⟩:=gi P m hr;have hE:=aa aS;rw[hr] at hE;have bK:Hid (RR=if P.tg.fits=true∧P.va.fits=true then .ok (some P) else .error (4,0)):=ab (hE);have hPt:P.tg.fits=S.tg.fits:=by rw[←cE];exact zM S.tg
    have hPv:P.va.fits=S.va.fits:=by rw[←cE];exact zM S.va
    rw[hPt,hPv] at bK;have HTM:=ab (fun W (hb:Below w3.heap.size w3 W)=>sF S.tg W (PT.In.later hb cS.here.tg))
    have HVM:=ab (fun W (hb:Below w3.heap.size w3 W)=>sF S.va W (PT.In.later hb cS.here.va))
    have HLIE:=ab cS;have HCAN:=ab cE;obtain⟨C,hC⟩:∃C,C=S.cells:=⟨_,rfl⟩;have dc:S.v=.agg C:=by rw[hC];rfl
    have gz:=ab dc;have qV:C.size=24:=by rw[hC];rfl
    have qU:C.all (·.oneCell')=true:=by rw[hC];exact SV.cells_one S
    have jZ:C[2]? =some (.int .i64 S.tg.k)∧C[3]? =some (.string S.tg.t)∧C[4]? =some (.int .i64 S.tg.n)∧C[5]? =some (.string S.tg.nm)∧C[6]? =some (.slice S.tg.xa S.tg.len S.tg.cap):=by rw[hC];exact⟨rfl,rfl,rfl,rfl,rfl⟩
    have iE:C[7]? =some (.int .i64 S.va.k)∧C[8]? =some (.string S.va.t)∧C[9]? =some (.int .i64 S.va.n)∧C[10]? =some (.string S.va.nm)∧C[11]? =some (.slice S.va.xa S.va.len S.va.cap):=by rw[hC];exact⟨rfl,rfl,rfl,rfl,rfl⟩
    have cK:=ab qV;have lR:=ab qU;have ri:=ab iE;have H4:=ab ((aa H3).st C);have H5:=ab ((aa H4).fa #[.int .i64 0,.int .i64 0]);obtain⟨f0,f1⟩:=jj (aa H5).f;have s2:=gO (aa H5).s jZ.1;have s3:=gO (aa H5).s jZ.2.1;have s4:=gO (aa H5).s jZ.2.2.1;have s5:=gO (aa H5).s jZ.2.2.2.1;have s6:=gO (aa H5).s jZ.2.2.2.2;have s7:=gO (aa H5).s iE.1;have s8:=gO (aa H5).s iE.2.1;have s9:=gO (aa H5).s iE.2.2.1;have tE:=gO (aa H5).s iE.2.2.2.1;have tD:=gO (aa H5).s iE.2.2.2.2;have HB35:Hid (∀W,LnS w B W C #[.int .i64 0,.int .i64 0]→True):=ab (fun _ _=>trivial)
    have CM:w3.heap.size=((w3.setRow B C).setRow (B+1) #[.int .i64 0,.int .i64 0]).heap.size:=by simp
    have mh:Hid (S.tg.In ((w3.setRow B C).setRow (B+1) #[.int .i64 0,.int .i64 0])∧S.va.In ((w3.setRow B C).setRow (B+1) #[.int .i64 0,.int .i64 0])∧SLies (B+2) ((w3.setRow B C).setRow (B+1) #[.int .i64 0,.int .i64 0]) S):=ab (by
     have h1:=((cS.setRow (g:=B) (by have:=(aa H2).lt;omega) C).setRow (g:=B+1) (by have:=(aa H2).lt;omega) #[.int .i64 0,.int .i64 0])
     exact⟨h1.here.tg,h1.here.va,h1.mono (by have:=(aa H2).lt;omega)⟩)
    clear gi qQ hr hE qV qU hb3 aS HR hC dc jZ iE cE cS hPt hPv HTM HVM HB35 CM;rw[aa gz];unfold du;go_wp2_with (first
     | (refine aX rfl 30 _ _ rfl B C rfl rfl 30 Z24 (by with_reducible exact(aa H3).s) (cn.trans (by rw[aa cK])) (by rw[aa cK];rfl) (aa lR) ?_)
     | (refine aX rfl 36 _ _ rfl (B+1) #[.int .i64 0,.int .i64 0] rfl rfl 36 #[.int .i64 (le:Int),.int .i64 (la:Int)] (by with_reducible exact(aa H4).f) fy rfl (by simp[Value.oneCell']) ?_)
     | fail)
    clear f0 f1 s2 s3 s4 s5 s6 s7 s8 s9 tE tD;generalize (w3.setRow B C).setRow (B+1) #[.int .i64 0,.int .i64 0]=w5 at *;clear H3 H4;have oV:=ab (sF S.tg w5 (aa mh).1);unfold pv at oV
    cases hf:S.tg.fits
    ·rw[hf] at oV bK
     have HE:Hid (RR=.error (4,0)):=ab ((aa bK).trans (ac (fun q=>absurd q.1 (by decide))))
     clear bK hf;refine(aa oV).mono ?_;rintro e w6 ⟨rfl,hb6⟩;have H6:=ab ((aa H5).below hb6);have H7:=ab ((aa H6).st Z24);have H8:=ab ((aa H7).fa #[.int .i64 4,.int .i64 0]);clear hb6;go_wp2_with (first
      | (refine aX rfl 30 _ _ rfl B Z24 rfl rfl 30 C (by with_reducible exact(aa H6).s) cn (aa cK) (SV.cells_one bh) ?_)
      | (refine aX rfl 36 _ _ rfl (B+1) #[.int .i64 4,.int .i64 0] rfl rfl 36 #[.int .i64 0,.int .i64 0] (by with_reducible exact(aa H7).f) fy rfl (by simp[Value.oneCell']) ?_)
      | fail)
     exact ck (qh _ _ B (B+1) Z24 #[.int .i64 4,.int .i64 0] (.bool false) rfl rfl rfl (aa H8).s (aa H8).f rfl rfl) rfl (aa gV 4 0 _ (aa HE) (aa H8).bel)
    ·rw[hf] at oV bK
     clear hf;refine(aa oV).mono ?_;rintro e w6 ⟨rfl,hb6⟩;have H6:=ab ((aa H5).below hb6);have kS:=ab ((aa mh).2.2.below hb6);have HVC:=ab (sF S.va w6 (PT.In.later hb6 (aa mh).2.1));unfold pv at HVC;have s7:=gO (aa H6).s (aa ri).1;have s8:=gO (aa H6).s (aa ri).2.1;have s9:=gO (aa H6).s (aa ri).2.2.1;have tE:=gO (aa H6).s (aa ri).2.2.2.1;have tD:=gO (aa H6).s (aa ri).2.2.2.2;clear hb6 oV mh;go_wp2_with fail;clear s7 s8 s9 tE tD;refine(aa HVC).mono ?_;rintro e w7 ⟨rfl,hb7⟩;have H7:=ab ((aa H6).below hb7);have HL7:=ab ((aa kS).below hb7);clear hb7 HVC kS
     cases hf:S.va.fits
     ·rw[hf] at bK
      have HE:Hid (RR=.error (4,0)):=ab ((aa bK).trans (ac (fun q=>absurd q.2 (by decide))))
      clear bK hf;have H8:=ab ((aa H7).st Z24);have H9:=ab ((aa H8).fa #[.int .i64 4,.int .i64 0]);go_wp2_with (first
       | (refine aX rfl 30 _ _ rfl B Z24 rfl rfl 30 C (by with_reducible exact(aa H7).s) cn (aa cK) (SV.cells_one bh) ?_)
       | (refine aX rfl 36 _ _ rfl (B+1) #[.int .i64 4,.int .i64 0] rfl rfl 36 #[.int .i64 0,.int .i64 0] (by with_reducible exact(aa H8).f) fy rfl (by simp[Value.oneCell']) ?_)
       | fail)
      exact ck (qh _ _ B (B+1) Z24 #[.int .i64 4,.int .i64 0] (.bool false) rfl rfl rfl (aa H9).s (aa H9).f rfl rfl) rfl (aa gV 4 0 _ (aa HE) (aa H9).bel)
     ·rw[hf] at bK
      have HE:Hid (RR=.ok (some P)):=ab ((aa bK).trans (af (by simp)))
      clear bK hf;have H8:=ab ((aa H7).st C);have H9:=ab ((aa H8).fa #[.int .i64 0,.int .i64 0]);go_wp2_with (first
       | (refine gG rfl 30 _ rfl B rfl 30 C (0,0) _ (by with_reducible exact(aa H7).s) underlying30 rfl (cn.trans (by rw[aa cK])) ?_)
       | (refine aX rfl 30 _ _ rfl B C rfl rfl 30 C (by with_reducible exact(aa H7).s) (cn.trans (by rw[aa cK])) rfl (aa lR) ?_)
       | (refine aX rfl 36 _ _ rfl (B+1) #[.int .i64 0,.int .i64 0] rfl rfl 36 #[.int .i64 0,.int .i64 0] (by with_reducible exact(aa H8).f) fy rfl (by simp[Value.oneCell']) ?_)
       | fail)
      exact ck (qh _ _ B (B+1) C #[.int .i64 0,.int .i64 0] (.bool true) rfl rfl rfl (aa H9).s (aa H9).f (aa cK) rfl) rfl (aa kQ _ _ ⟨(aa H9).bel,fun er a h=>(by rw[aa HE] at h;cases h),fun h=>(by rw[aa HE] at h;cases h),fun P' h=>(by
       rw[aa HE] at h;injection h with h;injection h with h
       subst h;exact⟨S,by rw[aa gz];rfl,aa HCAN,(((aa HL7).setRow (g:=B) (by omega) C).setRow (g:=B+1) (by omega) _).mono (by omega)⟩)⟩)
  ·have q0:((le:Int) !=0)=true:=by simp;omega
   have HE:Hid (RR=.error ((le:Int),la)):=ab ((aa bQ).trans (af (fun q=>h0 (by omega))))
   clear h0 bQ mo gM ss;go_wp2_with (first
    | (refine aX rfl 36 _ _ rfl (B+1) #[.int .i64 (le:Int),.int .i64 (la:Int)] rfl rfl 36 #[.int .i64 0,.int .i64 0] (by with_reducible exact(aa H1).f) fy rfl (by simp[Value.oneCell']) ?_)
    | fail)
   clear f0 f1 H1;generalize w1.setRow (B+1) #[.int .i64 (le:Int),.int .i64 (la:Int)]=w2 at *;have h6:=(aa H2).st Z24;have bw:LnS w B w2.drew Z24 #[.int .i64 (le:Int),.int .i64 (la:Int)]:=⟨(aa H2).bel.drew,(aa H2).s,(aa H2).f⟩;have lp:LnS w B (w2.drew.setRow B Z24) Z24 #[.int .i64 (le:Int),.int .i64 (la:Int)]:=bw.st Z24;have H7:=ab (lp.fa #[.int .i64 (le:Int),.int .i64 (la:Int)]);obtain⟨S0,aO⟩:∃S0:World→Prop,S0=fun W=>W.cell? ⟨B+1,0,none⟩=some (.int .i64 (le:Int))∧W.cell? ⟨B+1,1,none⟩=some (.int .i64 (la:Int)):=⟨_,rfl⟩
   have ao:=ab aO;have aU:Hid (∀W D,LnS w B W D #[.int .i64 (le:Int),.int .i64 (la:Int)]→S0 W):=ab (fun W D h=>by rw[aO];exact jj h.f)
   clear aO;have ny:=aa aU _ _ bw;refine gZ 4 S0 ?_;intro F;refine aK F 0 ao ny ?_
   (try simp only[aH,aG])
   (try go_frame)
   refine aK F 1 ao ny ?_
   (try simp only[aH,aP,aG])
   (try go_frame)
   refine cg 2 (fun K2 ew=> ?_)
   refine ui rfl 30 _ _ rfl B Z24 rfl rfl 30 Z24 bw.s cn (rfl) (SV.cells_one bh) ?_;have nv:=aa aU _ _ lp;refine ew _ _ nv ?_
   (try simp only[aH,aP,aG])
   (try go_frame)
   refine aK F 3 ao nv ?_
   (try simp only[aH,aP,aG])
   (try go_frame)
   refine g5 (by kernel_rfl) rfl (by kernel_rfl) (fun K4 bH=> ?_)
   refine ui rfl 36 _ _ rfl (B+1) #[.int .i64 (le:Int),.int .i64 (la:Int)] rfl rfl 36 #[.int .i64 (le:Int),.int .i64 (la:Int)] lp.f fy rfl (by simp[Value.oneCell']) ?_
   refine bH _ _ ?_
   (try simp only[aH,aP,aG])
   (try go_frame)
   clear bH ew K4 K2 F nv ny lp bw h6 aU ao;go_wp2_with fail;exact ck (qh _ _ B (B+1) Z24 #[.int .i64 (le:Int),.int .i64 (la:Int)] (.bool false) rfl rfl rfl (aa H7).s (aa H7).f rfl rfl) rfl (aa gV (le:Int) la _ (aa HE) (aa H7).bel)
open Go.RowKit
theorem aY {w:World} {g:Nat} {C:Array Value} {t:TypeId} (h:w.heap[g]? =some (.cells C t (0,0))) {k:Nat} {u:Value} (hk:C[k]? =some u):w.cell? ⟨g,k,none⟩=some u:=by rw[eX _ _ _ _ _ _ h];exact hk
open Go.RowKit
def qx (w:World) (C:Array Value) (a b:Int):World:=((((w.alloc (.cells Z24 30)).alloc (.cells #[.int .i64 0,.int .i64 0] 36)).setRow w.heap.size C).setRow (w.heap.size+1) #[.int .i64 a,.int .i64 b])
theorem uL (w:World) (C:Array Value) (a b:Int):Below w.heap.size w (qx w C a b)∧(qx w C a b).heap[w.heap.size]? =some (.cells C 30 (0,0))∧(qx w C a b).heap[w.heap.size+1]? =some (.cells #[.int .i64 a,.int .i64 b] 36 (0,0)):=by
 have h0:((w.alloc (.cells Z24 30)).alloc (.cells #[.int .i64 0,.int .i64 0] 36)).heap[w.heap.size]? =some (.cells Z24 30 (0,0)):=bL (by simp) (aw rfl)
 have h1:((w.alloc (.cells Z24 30)).alloc (.cells #[.int .i64 0,.int .i64 0] 36)).heap[w.heap.size+1]? =some (.cells #[.int .i64 0,.int .i64 0] 36 (0,0)):=aw (by simp)
 have hb:Below w.heap.size w ((w.alloc (.cells Z24 30)).alloc (.cells #[.int .i64 0,.int .i64 0] 36)):=(ba _).alloc (by simp) _
 refine⟨eL (eL hb _ (ax _) _) _ (by omega) _, ?_, ?_⟩
 ·exact(dH _ _ _ _ (by omega)).trans (cm _ _ _ _ _ _ h0)
 ·exact cm _ _ _ _ _ _ ((dH _ _ _ _ (by omega)).trans h1)
theorem y9 {P:Program} {ops:Array Oper} {rest:List Oper} {o:Oper} {a:Act} {w:World} {Q:Exit→Act→World→Prop} (hw:Region.wanted o (yielded ops a.tmps)=true) (ty:TypeId) (x:Operand) (ho:o.op=.load ty x)
  (g:Nat) (hx:a.eval x=.pointer (some ⟨g,0,none⟩)) (t:TypeId) (cs:Array Value) (fr:Nat × Nat) (d:TypeDesc) (hg:w.heap[g]? =some (.cells cs t fr))
  (hu:P.underlying ty=some d) (hd:(match d with | .struct _ | .array _ _=>true | _=>false)=true) (hi:(P.info? ty).map (·.size)=some cs.size)
  (h:wpList P ops Q rest (a.put o.dst (.agg cs)) w):wpList P ops Q (o::rest) a w:=
 wpList_step fun K hK=>by rw[af hw];exact wp_load_row ty x ho g hx t cs fr d hg hu hd hi (hK _ _ h)
theorem Dh {P:Program} {ops:Array Oper} {S:World→Prop} {o:Oper} {a:Act} (ty:TypeId) (x:Operand) (ho:o.op=.load ty x) (hw:Region.wanted o (yielded ops a.tmps)=true)
  (g:Nat) (hx:a.eval x=.pointer (some ⟨g,0,none⟩)) (t:TypeId) (cs:Array Value) (fr:Nat × Nat) (d:TypeDesc) (hg:∀w,S w→w.heap[g]? =some (.cells cs t fr))
  (hu:P.underlying ty=some d) (hd:(match d with | .struct _ | .array _ _=>true | _=>false)=true) (hi:(P.info? ty).map (·.size)=some cs.size):YieldsIf P ops S o (.agg cs) a:=
 Or.inl ⟨hw,fun w hS=>by
  unfold execOp;simp only[ho,hx,Instr.loadAt,Instr.sureAddr,rT,Sem.run_pure,Result.andThen_ok,tn w g t ty cs fr d (hg w hS) hu hd hi]⟩
end Go.Proofs.YtlmnjbipfacniaaGreatDoor
set_option maxRecDepth 100000
set_option maxHeartbeats 2000000
namespace Go.Proofs.YtlmnjbipfacniaaGreatDoor
open Go.Proofs.Tryz
open Go.RowKit
def tAl:ByteArray:=⟨#[76,32,88,32,61,32,39,97,39,32,38,32,50,32,58,83,40,77,41]⟩
def sAl:SV:=⟨⟨#[76]⟩,3,aI 3 ByteArray.empty 0 ⟨#[88]⟩ [],aI 8 ByteArray.empty 0 ByteArray.empty [aI 1 ⟨#[97]⟩ 0 ByteArray.empty [],aI 2 ByteArray.empty 2 ByteArray.empty []],PT.nul,ByteArray.empty,ByteArray.empty,dj [],dj [],ByteArray.empty,⟨#[77]⟩,ByteArray.empty⟩
theorem EQ:ar (cj sAl)=[76,32,88,32,61,32,39,97,39,32,38,32,50,32,58,83,40,77,41]:=by kernel_rfl
theorem JQ:sAl.wrong=0:=by kernel_rfl
theorem sAl_ln:mC tAl=.ok (some sAl.bst):=by
 have h:=G7 JQ (show sAl.tg.ns from ⟨by decide,fun i=>i.elim0⟩) (show sAl.va.ns from ⟨by decide,fun i=>by
  obtain⟨i,hi⟩:=i;have hi:i < 2:=hi;have h:i=0∨i=1:=by omega
  rcases h with rfl | rfl
  ·exact⟨by decide,fun i=>i.elim0⟩
  ·exact⟨by decide,fun i=>i.elim0⟩⟩) (by rw[EQ];decide)
 rw[EQ] at h;exact h
theorem Dg (w:World) (hW:SyW w) (m:Int) (hm:w.cell? ⟨2,0,none⟩=some (.int .i64 m)):Calls prog 6 #[] w fun e w'=>e=.returned (.bool true)∧Below w.heap.size w w':=by
 have HL:=ab (A9 tAl w (by decide) hW m hm)
 have HP:=ab sAl_ln;unfold tAl at HL HP;clear hW hm;go_enter func6,ntmps6;go_wp2_with fail;refine(aa HL).mono ?_;rintro e w1 ⟨hb1, -, -,gi⟩;obtain⟨S,rfl,hS, -⟩:=gi _ (aa HP);obtain⟨C,hC⟩:∃C,C=S.cells:=⟨_,rfl⟩;have dc:S.v=.agg C:=by rw[hC];rfl
 have dL:Hid (C.size=24):=ab (by rw[hC];rfl)
 have cK:Hid (C.all (·.oneCell')=true):=ab (by rw[hC];exact SV.cells_one _)
 have k0:S.lab=⟨#[76]⟩:=aJ SV.lab hS;have k1:S.k=3:=aJ SV.k hS;have k7:S.va.k=8:=by
  have h:=aJ (fun U:SV=>U.va.k) hS
  have e:S.can.va.k=S.va.k:=rF S.va;rw[←e];exact h
 have k22:S.ye=⟨#[77]⟩:=aJ SV.ye hS;have uf:Hid (C[0]? =some (.string ⟨#[76]⟩)∧C[1]? =some (.int .i64 3)∧C[7]? =some (.int .i64 8)∧C[22]? =some (.string ⟨#[77]⟩)):=ab (⟨by rw[hC,←k0];rfl,by rw[hC,←k1];rfl,by rw[hC,←k7];rfl,by rw[hC,←k22];rfl⟩)
 have bf:=ab hb1;rw[dc];unfold du;clear gi hS hC dc k0 k1 k7 k22 hb1 HL HP;have fq:Hid (((w1.alloc (.cells Z24 30)).alloc (.cells #[.int .i64 0,.int .i64 0] 36)).heap[w1.heap.size]? =some (.cells bh.cells 30 (0,0))):=ab (bL (by simp) (aw rfl))
 have fd:Hid ((((w1.alloc (.cells Z24 30)).alloc (.cells #[.int .i64 0,.int .i64 0] 36)).setRow w1.heap.size C).heap[w1.heap.size+1]? =some (.cells #[.int .i64 0,.int .i64 0] 36 (0,0))):=ab ((dH _ _ _ _ (by omega)).trans (aw (by simp)))
 obtain⟨W2,ep⟩:∃W,W=qx w1 C 0 0:=⟨_,rfl⟩;have gN:=ab (uL w1 C 0 0);rw[←ep] at gN;have bi:=ab ep;clear ep;go_upto_region 2 with (first
  | (refine aX rfl 30 _ _ rfl w1.heap.size C rfl rfl 30 bh.cells (by with_reducible exact aa fq) (cn.trans (by rw[aa dL])) (by rw[aa dL];rfl) (aa cK) ?_)
  | (refine aX rfl 36 _ _ rfl (w1.heap.size+1) #[.int .i64 0,.int .i64 0] rfl rfl 36 #[.int .i64 0,.int .i64 0] (by with_reducible exact aa fd) fy rfl (by simp[Value.oneCell']) ?_)
  | fail)
 rw[show ((((w1.alloc (.cells Z24 30)).alloc (.cells #[.int .i64 0,.int .i64 0] 36)).setRow w1.heap.size C).setRow (w1.heap.size+1) #[.int .i64 0,.int .i64 0])=W2 from (aa bi).symm];clear fq fd bi;obtain⟨gJ,lj,iF⟩:=aa gN;obtain⟨c0,c1,c7,nA⟩:=aa uf;have e0:=aY lj c0;have e1:=aY lj c1;have e7:=aY lj c7;have vv:=aY lj nA;obtain⟨f0, -⟩:=jj iF;have aF:=ab (ap (aa bf) gJ);clear gJ lj iF c0 c1 c7 nA gN uf;go_wp2_with fail;go_ret;exact⟨rfl,aa aF⟩
open Go.RowKit
theorem Gq {s:ByteArray} {er:Int} {a:Nat} (h:mC s=.error (er,a)):er≠0:=by
 unfold mC at h;split at h
 ·cases h
 ·split at h
  ·rename_i q
   injection h with h
   injection h with h1 h2
   rw[←h1];omega
  ·cases hr:oG s (gc s).1 with
   | error e=>
    rw[hr] at h;injection h with h
    subst h;exact Cc s _ _ _ hr
   | ok x=>
    rw[hr] at h;dsimp only at h;split at h
    ·cases h
    ·injection h with h
     injection h with h1 h2
     rw[←h1];decide
theorem prA_ok {S:SV} (h:(iy S).2=0):S.wrong=0∧(ar (cj S)).length≤2000∧(iy S).1=⟨(ar (cj S)).toArray⟩:=by
 unfold iy at h ⊢
 by_cases h1:S.wrong≠0
 ·rw[af h1] at h;exact absurd h h1
 ·rw[ac h1] at h ⊢
  by_cases h2:(S.k=4∨S.k=5∨S.k=6)∧65536 < S.pa.txt.length
  ·rw[af h2] at h;exact absurd h (by decide)
  ·rw[ac h2] at h ⊢
   by_cases h3:eN (ar (cj S))=true
   ·rw[af h3] at h;exact absurd h (by decide)
   ·rw[ac h3] at h ⊢
    by_cases h4:2000 < (ar (cj S)).length
    ·rw[af h4] at h;exact absurd h (by decide)
    ·rw[ac h4]
     exact⟨Classical.byContradiction h1,Nat.le_of_not_lt h4,rfl⟩
theorem EY {S:SV} (h:S.wrong=0):(iy S).2=0∨(iy S).2=4∨(iy S).2=2:=by
 unfold iy;rw[ac (fun q=>q h)]
 split
 ·exact .inr (.inl rfl)
 ·split
  ·exact .inr (.inr rfl)
  ·split
   ·exact .inr (.inl rfl)
   ·exact .inl rfl
theorem zU {S:SV} {w:World} (hS:S.In w) (h:(iy S).2=0):S.wrong=0∧(iy S).1.size≤maxLen∧mC (iy S).1=.ok (some S.bst):=by
 obtain⟨h1,h2,h3⟩:=prA_ok h;refine⟨h1, ?_, ?_⟩
 ·rw[h3]
  show (ar (cj S)).toArray.size≤maxLen;rw[wo];unfold maxLen;omega
 ·rw[h3]
  exact G7 h1 (G2 _ hS.tg) (G2 _ hS.va) h2
theorem Fh {t:ByteArray} {P U:SV} (h:mC t=.ok (some P)) (hU:U.can=P):U.wrong=0∧U.bst=P:=by
 obtain⟨h1,h2, -, -⟩:=LK (fun x hx=>by have:=(Bs t x hx).2.1;omega) h
 exact⟨by rw[←JF,hU];exact h1,by rw[←MA,hU];exact h2⟩
end Go.Proofs.YtlmnjbipfacniaaGreatDoor
