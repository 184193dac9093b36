/- The reader of lines: a whole line's tokens. What strings.Has -/
import Derived.Test.YtlmnjbipfacniaaGreatDoorSyU0M
import Derived.Below
import Derived.Shelf.LaysM
import Derived.Shelf.Strings.Prefix
import Derived.Test.YtlmnjbipfacniaaGreatDoorProg
import Derived.Test.YtlmnjbipfacniaaGreatDoorLexRepLibM
set_option maxRecDepth 100000
set_option maxHeartbeats 8000000
namespace Go.Proofs.YtlmnjbipfacniaaGreatDoor
open Go.Proofs.Tryz
open Go.RowKit
structure SyW (w:World):Prop where
 sh:dI w
 shx:gP w
 sh0:w.cell? ⟨0,1,none⟩=some (.int .i64 0)
 er:∃te pe,w.cell? ⟨9,0,none⟩=some (.iface te pe)
theorem SyW.later {w w':World} (h:SyW w) (hb:Below w.heap.size w w'):SyW w':=⟨h.sh.later hb,h.shx.later hb,av hb h.sh0,by obtain⟨te,pe,q⟩:=h.er;exact⟨te,pe,av hb q⟩⟩
theorem SyW.l1 {w:World} (h:SyW w):(1:Nat) < w.heap.size:=h.sh.lt
theorem SyW.l2 {w:World} (h:SyW w):(0:Nat) < w.heap.size:=de _ _ h.sh0
theorem SyW.l3 {w:World} (h:SyW w):(9:Nat) < w.heap.size:=by obtain⟨te,pe,q⟩:=h.er;exact de _ _ q
structure SyTk (w:World) (v:Value) (l:List Tk) (g:Nat):Prop where
 row:∃xa cap off,v=.slice xa l.length cap∧l.length≤cap∧cap≤maxLen∧(l≠[]→xa=some ⟨g,off,none⟩)∧wm w g off l
 lt:g < w.heap.size
 sm:∀t ∈ l,uR t
structure RaB (w:World) (B:Nat) (W:World):Prop where
 bel:Below B w W
 sbox:BoxS B W
 fbox:W.heap[B+1]? =some (.cells #[.int .i64 0,.int .i64 0] 36 (0,0))
theorem RaB.but2 {w W W':World} {B z:Nat} (h:RaB w B W) (hb:But2 z B W W') (hz:B+1 < z):RaB w B W':=by
 have hs:=(bC.1 h.fbox).1;exact⟨⟨hb.os.trans h.bel.os,hb.tape.trans h.bel.tape,hb.output.trans h.bel.output,bJ h.bel.size hb.size,fun k hk=>(hb.block k (by omega) (by omega) (by omega)).trans (h.bel.block k hk)⟩,hb.box (by omega) h.sbox,(hb.block (B+1) hs (by omega) (by omega)).trans h.fbox⟩
theorem RaB.below {w W W':World} {B:Nat} (h:RaB w B W) (hb:Below W.heap.size W W'):RaB w B W':=by
 obtain⟨C,h1,h2,h3⟩:=h.sbox;exact⟨h.bel.trans (hb.mono (by have:=(bC.1 h1).1;omega)),⟨C,am h1 hb,h2,h3⟩,am h.fbox hb⟩
theorem Lj {w w0 w1:World} {B g:Nat} {s:ByteArray} {l:List Tk} {xa:Option Addr} {cap off:Nat} (hB:B=w.heap.size) (h0:Below B w w0∧w0.heap[B+1]? =some (.cells #[.int .i64 0,.int .i64 0] 36 (0,0))∧w0.heap[B]? =some (.cells bh.cells 30 (0,0))) (ay:w0.heap.size=B+1+1)
  (hM:MI w1 w0.heap.size 6 wk) (hb1:Below w0.heap.size w0 w1) (hW:SyW w) (hs:s.size≤2000) (hk:(l.length≤cap∧cap≤maxLen∧(l≠[]→xa=some ⟨g,off,none⟩)∧wm w g off l)∧g < w.heap.size∧∀t ∈ l,uR t)
  {w2:World} {z:Nat} {C:SyC} (hz:z=w1.heap.size) (gH:w2=w1.alloc (.cells #[.slice xa l.length cap,.int .i64 (s.size:Int),.int .i64 0,.map (some w0.heap.size)] 105)) (hC:C=⟨z,s.size,g,w0.heap.size,6⟩):
  SyS C (z+1) B∧SyT B∧StR C 0 (z+1) B w2 w2 l bh bh∧SyEnv C w2∧RaB w B w2∧B+1 < z∧z+1≤w2.heap.size:=by
 subst hC hz;obtain⟨aZ,qP,lN⟩:=h0;obtain⟨⟨k1,k2,k3,k4⟩,hg,iR⟩:=hk;have hm:=hM.lt;have hb2:Below w1.heap.size w1 w2:=by rw[gH];exact ba _
 have e2:w2.heap.size=w1.heap.size+1:=by rw[gH,eu]
 have lj:w2.heap[B]? =some (.cells bh.cells 30 (0,0)):=am (am lN hb1) hb2;have iF:w2.heap[B+1]? =some (.cells #[.int .i64 0,.int .i64 0] 36 (0,0)):=am (am qP hb1) hb2;have l1:=hW.l1;have l2:=hW.l2;have l3:=hW.l3;have bD:Below B w w2:=(aZ.trans (hb1.mono (by omega))).trans (hb2.mono (by omega))
 have mP:=hW.later (hB▸bD);have hR:Syr ⟨w1.heap.size,s.size,g,w0.heap.size,6⟩ w2 l 0:=by
  refine⟨⟨xa,cap,off,by rw[gH];exact aw rfl,k1,k2,k3,fun i t ht=> ?_⟩,hM.below (hb2.block _ hm),by show g < w2.heap.size;omega,by show g≠w1.heap.size;omega,by show w0.heap.size≠w1.heap.size;omega,iR,hs⟩
  have q:∀o,w2.cell? ⟨g,o,none⟩=w.cell? ⟨g,o,none⟩:=fun o=>by unfold World.cell?;rw[bD.block g (by omega)]
  rw[q,q,q];exact k4 i t ht
 refine⟨⟨by show w1.heap.size < _;omega,by omega,by show B≠w1.heap.size;omega,by show B≠g;omega,by show B≠w0.heap.size;omega⟩,⟨by omega,by omega,by omega⟩,⟨But2.refl _ _ _,hR,zSV_in _ lj⟩,⟨mP.sh,mP.shx,mP.sh0,mP.er,by show w1.heap.size≠_;omega,by show w1.heap.size≠_;omega,by show w1.heap.size≠_;omega⟩,⟨bD,⟨_,lj,rfl,SV.cells_one bh⟩,iF⟩,by omega,by omega⟩
theorem Hj (s:ByteArray) (h:0 < s.size) (W:World):(Instr.index 9 (.string s) (.int .i64 0)).run prog W=.ok (.int .u8 (aj s 0:Int)) W:=by
 have e:aj s 0=(s[0]).toNat:=by
  unfold aj;have hl:0 < s.data.toList.length:=by simpa using h
  rw[AA,jH hl];rfl
 rw[e];simp[Instr.index,asIntOf,run_underlying underlying9,go_sem,h]
structure RaS (C:SyC) (z B:Nat) (w w2 W:World) (l:List Tk) (S P:SV):Prop where
 st:StR C 0 (z+1) B w2 W l S P
 bx:RaB w B W
def RaQ (C:SyC) (z B:Nat) (w w2:World) (R:Sy SV) (e:Ending) (W':World):Prop:=match R with | .ok x=>e=.returned (.tuple #[])∧∃S',RaS C z B w w2 W' x.2 S' x.1 | .error x=>e=aC x.1 x.2
theorem RaS.post {C:SyC} {z B:Nat} {w w2 W W':World} {l:List Tk} {S P:SV} {R:Sy SV} {e:Ending} (h:RaS C z B w w2 W l S P) (hz:C.z=z) (au:B+1 < z) (hp:iK C 0 (z+1) B W R e W'):RaB w B W'∧But2 C.z B w2 W'∧RaQ C z B w w2 R e W':=by
 have hb:=h.bx.but2 (z:=C.z) hp.1 (by omega)
 refine⟨hb,h.st.but.trans hp.1, ?_⟩
 cases R with
 | error x=>exact hp.2
 | ok x=>
  obtain⟨h1,h2,S',h3⟩:=hp.2;exact⟨h1,S',⟨h.st.but.trans hp.1,h2,h3⟩,hb⟩
theorem Hw (s:ByteArray) (l:List Tk) (v:Value) (g:Nat) (w:World) (hs:s.size≤2000) (hW:SyW w) (hT:SyTk w v l g):Calls prog 23 #[.string s,v] w fun e w'=>Cu s l w e w':=by
 have hmf:∀(fn:Fn) (first cap:Array Value) (w:World),(Instr.makeFunc fn first cap).run prog w=.ok (.func fn first cap) w:=fun _ _ _ _=>rfl
 obtain⟨⟨xa,cap,off,rfl,dM,j2,og,mb⟩,hg,iR⟩:=hT;obtain⟨B,hB⟩:∃B,B=w.heap.size:=⟨_,rfl⟩;obtain⟨w0,gh⟩:∃w0,w0=(w.alloc (.cells bh.cells 30)).alloc (.cells #[.int .i64 0,.int .i64 0] 36):=⟨_,rfl⟩;have ay:w0.heap.size=B+1+1:=by rw[gh,hB];simp
 have aZ:Below B w w0:=by rw[gh,hB];exact(ba _).alloc (by simp) _
 have qP:w0.heap[B+1]? =some (.cells #[.int .i64 0,.int .i64 0] 36 (0,0)):=by rw[gh,hB];exact aw (by simp)
 have lN:w0.heap[B]? =some (.cells bh.cells 30 (0,0)):=by rw[gh,hB];exact bL (by simp) (aw rfl)
 have tW:=ab (Hy w0 ((hW.later (hB▸aZ)).shx));have H0:=ab (And.intro aZ (And.intro qP lN));obtain⟨RR,bM⟩:∃RR,RR=oG s l:=⟨_,rfl⟩;have kQ:Hid (∀e w',(Below B w w'∧(∀P m,RR=.ok (P,m)→∃S:SV,e=.returned (.tuple #[S.v,du 0 0])∧S.can=P∧SLies B w' S)∧(∀er a,RR=.error (er,a)→∃C:Array Value,e=.returned (.tuple #[.agg C,du er a])∧C.size=24∧C.all (·.oneCell')=true))→Cu s l w e w'):=ab (fun e w' h=>by rw[hB,bM] at h;exact h)
 have HQ:Hid (RR=aR (rK s s.size l) fun t r=>raB s {bh with lab:=t} r):=ab (bM)
 have HWD:Hid ((w.alloc (.cells bh.cells 30)).alloc (.cells #[.int .i64 0,.int .i64 0] 36)=w0):=ab (gh.symm);have lr:=ab ay;have uc:=ab (fun (W:World) (hb:Below B w W)=>hW.later (hB▸hb))
 have gM:=ab (And.intro (And.intro dM (And.intro j2 (And.intro og mb))) (And.intro hg iR));have HWW:=ab hW;have HB:=ab hB;clear aZ qP lN gh bM hW og mb iR ay hB
 -- what is thrown is caught
 have key:∀(er:Int) (a:Nat) (W:World),RR=.error (er,a)→RaB w B W→∀tmps:Array Value,tmps.getD 4 undef=.pointer (some ⟨B,0,none⟩)→tmps.getD 5 undef=.pointer (some ⟨B+1,0,none⟩)→
   bodyPostD prog Tryz.f23 (fun e w'=>Cu s l w e w')
    (Exit.panic [{v:=.iface 36 (du er a),recovered:=false}]) {tmps:=tmps,defers:=[{target:=Target.fn (Fn.func 51) #[.pointer (some ⟨B+1,0,none⟩)],args:= #[]}]} W:=by
  intro er a W hRA hR tmps ht2 ht3;obtain⟨C,h1,h2,h3⟩:=hR.sbox;refine leaves_cons (f:=51) (args:= #[.pointer (some ⟨B+1,0,none⟩)]) (by simp) (by simp[go_sem]) ?_
  refine(Hg (B+1) er a _ [] _ hR.fbox rfl).mono ?_;rintro e u' w'' ⟨rfl,rfl,rfl⟩;have l8:B≠B+1:=by omega
  refine⟨_,xV tmps _ B (B+1) C #[.int .i64 er,.int .i64 (a:Int)] ht2 ht3 ((dH W _ _ _ l8).trans h1) (cm _ _ _ _ _ _ hR.fbox) h2 rfl,aa kQ _ _ ⟨eL hR.bel _ (by omega) _,fun p j h=> ?_,fun er' a' h=> ?_⟩⟩
  ·rw[hRA] at h;cases h
  ·rw[hRA] at h
   injection h with h;injection h with h1 h2
   subst h1 h2;exact⟨C,rfl,h2,h3⟩
 have mH:=ab key;clear key;obtain⟨w0',hw0'⟩:∃w0',w0'=w0:=⟨w0,rfl⟩;clear hw0' w0';go_enter_defers func23,ntmps23;go_wp2_with fail;rw[show ((w.alloc (.cells Z24 30)).alloc (.cells #[.int .i64 0,.int .i64 0] 36))=w0 from aa HWD];rw[show w.heap.size=B from (aa HB).symm];refine(aa tW).mono ?_;rintro e w1 ⟨rfl,hM1,hb1⟩;obtain⟨z,hz⟩:∃z,z=w1.heap.size:=⟨_,rfl⟩;obtain⟨w2,gH⟩:∃w2,w2=w1.alloc (.cells #[.slice xa l.length cap,.int .i64 (s.size:Int),.int .i64 0,.map (some w0.heap.size)] 105):=⟨_,rfl⟩;obtain⟨C,hC⟩:∃C:SyC,C=⟨z,s.size,g,w0.heap.size,6⟩:=⟨_,rfl⟩;obtain⟨x1,x2,x3,x4,x5,x6,x7⟩:=Lj (off:=off) (aa HB) (aa H0) (aa lr) hM1 hb1 (aa HWW) hs (aa gM) hz gH hC;have HX:=ab (And.intro x1 (And.intro x2 (And.intro x4 (And.intro x6 x7))));have iu:Hid (C.z=z):=ab (by rw[hC])
 have H2:Hid (RaS C z B w w2 w2 l bh bh):=ab (⟨x3,x5⟩);have hCE:s.size=C.E:=by rw[hC]
 have hQ:=aa HQ;rw[hCE] at hQ;have hraB:∀S l,raB s S l=aR (et C.E 400 S l) fun S q=>aR (ge C.E S q) fun S m=>if m.length=0 then .ok (S,m) else .error (2,(ak C.E 0 m).a):=fun S l=>by unfold raB;rw[hCE]
 have qc:=ab (And.intro hQ hraB);have gL:=ab (And.intro gH hz);clear x1 x2 x3 x4 x5 x6 x7 gH hM1 hb1 hC hQ hraB HQ hz;clear H0 tW HWD gM lr hCE
 by_cases h0:s.size=0
 ·have bQ:Hid (RR=raB s bh l):=ab (by
   rw[(aa qc).1];unfold rK;rw[ac (fun q=>q.1 h0),aT];rfl)
  have bQ:=ab ((aa bQ).trans ((aa qc).2 _ _));have he:s.toList.isEmpty=true:=by rw[m7,xD];exact kJ (by simpa using h0)
  clear h0 qc;go_wp2_with fail;rw[show w1.alloc (.cells #[.slice xa l.length cap,.int .i64 (s.size:Int),.int .i64 0,.map (some w0.heap.size)] 105)=w2 from (aa gL).1.symm];rw[show w1.heap.size=z from (aa gL).2.symm];clear gL;have HA:Hid (RR=aR (et C.E 400 bh l) fun S q=>aR (ge C.E S q) fun S m=>if m.length=0 then .ok (S,m) else .error (2,(ak C.E 0 m).a)):=ab (aa bQ)
  have HD:Hid (Calls prog 54 #[.pointer (some ⟨z,0,none⟩),.pointer (some ⟨B,0,none⟩)] w2 fun e w'=>iK C 0 (z+1) B w2 (et C.E 400 bh l) e w'):=ab (by
   have q:=zt (B:=z+1) (S:=_) w2 (aa HX).1 (aa HX).2.1 (aa H2).st.rdr ((aa HX).2.2.1.but2 (aa H2).st.but (aa HX).2.1) (aa H2).st.stm (bJ (aa HX).2.2.2.2 (aa H2).st.but.size) rfl rfl rfl rfl;rw[aa iu] at q;exact q)
  clear bQ;refine(aa HD).mono ?_;intro e w5 hp;obtain⟨qF,wy,iD⟩:=(aa H2).post (aa iu) (aa HX).2.2.2.1 hp;clear hp HD
  cases fj:et C.E 400 bh l with
  | error x=>
   obtain⟨er,i⟩:=x;rw[fj] at iD;have iD:e=aC er i:=iD;subst iD;have hE:=aa HA;rw[fj,dn] at hE;clear fj;unfold aC;go_wp2_with fail;exact aa mH er i w5 hE qF _ rfl rfl
  | ok x=>
   obtain⟨P5,l5⟩:=x;rw[fj] at iD;obtain⟨he5,S5,h5⟩:=iD;subst he5;have H5:=ab h5;have hE:=aa HA;rw[fj,aT] at hE;have nG:=ab hE;have HY:Hid (Calls prog 55 #[.pointer (some ⟨z,0,none⟩),.pointer (some ⟨B,0,none⟩)] w5 fun e w'=>iK C 0 (z+1) B w5 (ge C.E P5 l5) e w'):=ab (by
    have q:=zc (B:=z+1) w5 (aa HX).1 h5.st.rdr h5.st.stm;rw[aa iu] at q;exact q)
   clear fj h5 qF wy hE HA;go_wp2_with fail;refine(aa HY).mono ?_;intro e w6 hp;obtain⟨na,ww,dV⟩:=(aa H5).post (aa iu) (aa HX).2.2.2.1 hp;clear hp HY
   cases hr6:ge C.E P5 l5 with
   | error x=>
    obtain⟨er,i⟩:=x;rw[hr6] at dV;have dV:e=aC er i:=dV;subst dV;have hE:=aa nG;rw[hr6,dn] at hE;clear hr6;unfold aC;go_wp2_with fail;exact aa mH er i w6 hE na _ rfl rfl
   | ok x=>
    obtain⟨P6,l6⟩:=x;rw[hr6] at dV;obtain⟨he6,S6,h6⟩:=dV;subst he6;have hE:=aa nG;rw[hr6,aT] at hE;have H6:=ab h6;have mr:=ab hE;obtain⟨rW,cap6,off6,nc,k61,k62, -, -⟩:=h6.st.rdr.blk;rw[aa iu] at nc;have c0:w6.cell? ⟨z,0,none⟩=some (.slice rW l6.length cap6):=cr nc;have fw:Hid (Calls prog 56 #[.pointer (some ⟨z,0,none⟩)] w6 fun e w'=>e=aC 2 (ak C.E 0 l6).a∧Below w6.heap.size w6 w'):=ab (by
     have q:=rq w6 h6.st.rdr;rw[aa iu] at q;exact q)
    have lf:=ab na;clear hr6 h6 nc ww hE nG H5 na k61 k62
    by_cases hl6:l6.length=0
    ·have hE:=aa mr
     rw[af hl6] at hE;have HE:=ab hE;have q6:¬(0:Int) < (l6.length:Int):=by omega
     clear hl6 hE;obtain⟨Cs,jM⟩:∃Cs,Cs=S6.cells:=⟨_,rfl⟩;have qJ:Cs.size=24:=by rw[jM];rfl
     have oR:Cs.all (·.oneCell')=true:=by rw[jM];exact SV.cells_one S6
     have hb6:w6.heap[B]? =some (.cells Cs 30 (0,0)):=by rw[jM];exact(aa H6).st.stm.box
     have qa:Hid (SLies (z+1) w6 S6):=ab (⟨(aa H6).st.stm.txt,(aa H6).st.stm.tg,(aa H6).st.stm.va,(aa H6).st.stm.pa,(aa H6).st.stm.ps,(aa H6).st.stm.ls⟩);have gC:=ab hb6;have H16:=ab oR;have nB:=ab qJ;have kC:=ab (cm w6 B Cs Cs _ _ hb6);have rk:=ab ((dH w6 B (B+1) Cs (by omega)).trans (aa lf).fbox)
     have HF8:=ab (cm (w6.setRow B Cs) (B+1) _ #[.int .i64 0,.int .i64 0] _ _ (aa rk));have ug:=ab ((dH (w6.setRow B Cs) (B+1) B #[.int .i64 0,.int .i64 0] (by omega)).trans (aa kC))
     have gz:Hid (S6.v=.agg Cs):=ab (by rw[jM];rfl)
     have eR:Hid (S6.can=P6):=ab ((aa H6).st.stm.can);clear qJ oR hb6 jM;go_wp2_with (first
      | (refine gG rfl 30 _ rfl B rfl 30 Cs (0,0) _ (aa gC) underlying30 rfl (cn.trans (by rw[aa nB])) ?_)
      | (refine aX rfl 30 _ _ rfl B Cs rfl rfl 30 Cs (aa gC) (cn.trans (by rw[aa nB])) rfl (aa H16) ?_)
      | (refine aX rfl 36 _ _ rfl (B+1) #[.int .i64 0,.int .i64 0] rfl rfl 36 #[.int .i64 0,.int .i64 0] (by with_reducible exact aa rk) fy rfl (by simp[Value.oneCell']) ?_)
      | fail)
     (try go_frame)
     refine leaves_cons (f:=51) (args:= #[.pointer (some ⟨B+1,0,none⟩)]) (by simp) (by simp[go_sem]) ?_
     refine(zd _ _).mono ?_;rintro e u' w'' ⟨rfl,rfl,rfl⟩;refine⟨_,xV _ _ B (B+1) Cs #[.int .i64 0,.int .i64 0] rfl rfl (aa ug) (aa HF8) (aa nB) rfl,aa kQ _ _ ⟨eL (eL (aa lf).bel B (ax _) Cs) (B+1) (by omega) _,fun p' j' h=> ?_,fun er' a' h=> ?_⟩⟩
     ·rw[aa HE] at h
      injection h with h;injection h with h1 h2
      subst h1;exact⟨S6,by rw[aa gz];rfl,aa eR,(((aa qa).setRow (g:=B) (by have:=(aa HX).2.2.2.1;omega) Cs).setRow (g:=B+1) (by have:=(aa HX).2.2.2.1;omega) _).mono (by have:=(aa HX).2.2.2.1;omega)⟩
     ·rw[aa HE] at h;cases h
    ·have hE:=aa mr
     rw[ac hl6] at hE;have HE:=ab hE;have q6:(0:Int) < (l6.length:Int):=by omega
     clear hl6 hE;go_wp2_with fail;refine(aa fw).mono ?_;rintro e w7 ⟨rfl,hb7⟩;unfold aC;go_wp2_with fail;exact aa mH 2 _ w7 (aa HE) ((aa lf).below hb7) _ rfl rfl
 ·have ma:=Hj s (by omega)
  have he:s.toList.isEmpty=false:=by
   rw[m7,←Bool.not_eq_true,xD];intro q;exact h0 (by have:=aJ List.length q;simpa using this)
  have iH:Hid (rK s C.E l=if aj s 0≠32∧aj s 0≠58 then dO C.E l else .ok (ByteArray.empty,l)):=ab (by
   unfold rK
   by_cases q:aj s 0≠32∧aj s 0≠58
   ·rw[af ⟨h0,q⟩,af q]
   ·rw[ac (fun z=>q z.2),ac q])
  generalize aj s 0=b at *;clear h0
  by_cases jd:b=32
  ·have bQ:Hid (RR=raB s bh l):=ab (by rw[(aa qc).1,aa iH,ac (fun q=>q.1 jd),aT];rfl)
   have bQ:=ab ((aa bQ).trans ((aa qc).2 _ _));have q32:((b:Int) !=32)=false:=by simp;omega
   clear jd qc iH;go_wp2_with fail;rw[show w1.alloc (.cells #[.slice xa l.length cap,.int .i64 (s.size:Int),.int .i64 0,.map (some w0.heap.size)] 105)=w2 from (aa gL).1.symm];rw[show w1.heap.size=z from (aa gL).2.symm];clear gL;have HA:Hid (RR=aR (et C.E 400 bh l) fun S q=>aR (ge C.E S q) fun S m=>if m.length=0 then .ok (S,m) else .error (2,(ak C.E 0 m).a)):=ab (aa bQ)
   have HD:Hid (Calls prog 54 #[.pointer (some ⟨z,0,none⟩),.pointer (some ⟨B,0,none⟩)] w2 fun e w'=>iK C 0 (z+1) B w2 (et C.E 400 bh l) e w'):=ab (by
    have q:=zt (B:=z+1) (S:=_) w2 (aa HX).1 (aa HX).2.1 (aa H2).st.rdr ((aa HX).2.2.1.but2 (aa H2).st.but (aa HX).2.1) (aa H2).st.stm (bJ (aa HX).2.2.2.2 (aa H2).st.but.size) rfl rfl rfl rfl;rw[aa iu] at q;exact q)
   clear bQ;refine(aa HD).mono ?_;intro e w5 hp;obtain⟨qF,wy,iD⟩:=(aa H2).post (aa iu) (aa HX).2.2.2.1 hp;clear hp HD
   cases fj:et C.E 400 bh l with
   | error x=>
    obtain⟨er,i⟩:=x;rw[fj] at iD;have iD:e=aC er i:=iD;subst iD;have hE:=aa HA;rw[fj,dn] at hE;clear fj;unfold aC;go_wp2_with fail;exact aa mH er i w5 hE qF _ rfl rfl
   | ok x=>
    obtain⟨P5,l5⟩:=x;rw[fj] at iD;obtain⟨he5,S5,h5⟩:=iD;subst he5;have H5:=ab h5;have hE:=aa HA;rw[fj,aT] at hE;have nG:=ab hE;have HY:Hid (Calls prog 55 #[.pointer (some ⟨z,0,none⟩),.pointer (some ⟨B,0,none⟩)] w5 fun e w'=>iK C 0 (z+1) B w5 (ge C.E P5 l5) e w'):=ab (by
     have q:=zc (B:=z+1) w5 (aa HX).1 h5.st.rdr h5.st.stm;rw[aa iu] at q;exact q)
    clear fj h5 qF wy hE HA;go_wp2_with fail;refine(aa HY).mono ?_;intro e w6 hp;obtain⟨na,ww,dV⟩:=(aa H5).post (aa iu) (aa HX).2.2.2.1 hp;clear hp HY
    cases hr6:ge C.E P5 l5 with
    | error x=>
     obtain⟨er,i⟩:=x;rw[hr6] at dV;have dV:e=aC er i:=dV;subst dV;have hE:=aa nG;rw[hr6,dn] at hE;clear hr6;unfold aC;go_wp2_with fail;exact aa mH er i w6 hE na _ rfl rfl
    | ok x=>
     obtain⟨P6,l6⟩:=x;rw[hr6] at dV;obtain⟨he6,S6,h6⟩:=dV;subst he6;have hE:=aa nG;rw[hr6,aT] at hE;have H6:=ab h6;have mr:=ab hE;obtain⟨rW,cap6,off6,nc,k61,k62, -, -⟩:=h6.st.rdr.blk;rw[aa iu] at nc;have c0:w6.cell? ⟨z,0,none⟩=some (.slice rW l6.length cap6):=cr nc;have fw:Hid (Calls prog 56 #[.pointer (some ⟨z,0,none⟩)] w6 fun e w'=>e=aC 2 (ak C.E 0 l6).a∧Below w6.heap.size w6 w'):=ab (by
      have q:=rq w6 h6.st.rdr;rw[aa iu] at q;exact q)
     have lf:=ab na;clear hr6 h6 nc ww hE nG H5 na k61 k62
     by_cases hl6:l6.length=0
     ·have hE:=aa mr
      rw[af hl6] at hE;have HE:=ab hE;have q6:¬(0:Int) < (l6.length:Int):=by omega
      clear hl6 hE;obtain⟨Cs,jM⟩:∃Cs,Cs=S6.cells:=⟨_,rfl⟩;have qJ:Cs.size=24:=by rw[jM];rfl
      have oR:Cs.all (·.oneCell')=true:=by rw[jM];exact SV.cells_one S6
      have hb6:w6.heap[B]? =some (.cells Cs 30 (0,0)):=by rw[jM];exact(aa H6).st.stm.box
      have qa:Hid (SLies (z+1) w6 S6):=ab (⟨(aa H6).st.stm.txt,(aa H6).st.stm.tg,(aa H6).st.stm.va,(aa H6).st.stm.pa,(aa H6).st.stm.ps,(aa H6).st.stm.ls⟩);have gC:=ab hb6;have H16:=ab oR;have nB:=ab qJ;have kC:=ab (cm w6 B Cs Cs _ _ hb6);have rk:=ab ((dH w6 B (B+1) Cs (by omega)).trans (aa lf).fbox)
      have HF8:=ab (cm (w6.setRow B Cs) (B+1) _ #[.int .i64 0,.int .i64 0] _ _ (aa rk));have ug:=ab ((dH (w6.setRow B Cs) (B+1) B #[.int .i64 0,.int .i64 0] (by omega)).trans (aa kC))
      have gz:Hid (S6.v=.agg Cs):=ab (by rw[jM];rfl)
      have eR:Hid (S6.can=P6):=ab ((aa H6).st.stm.can);clear qJ oR hb6 jM;go_wp2_with (first
       | (refine gG rfl 30 _ rfl B rfl 30 Cs (0,0) _ (aa gC) underlying30 rfl (cn.trans (by rw[aa nB])) ?_)
       | (refine aX rfl 30 _ _ rfl B Cs rfl rfl 30 Cs (aa gC) (cn.trans (by rw[aa nB])) rfl (aa H16) ?_)
       | (refine aX rfl 36 _ _ rfl (B+1) #[.int .i64 0,.int .i64 0] rfl rfl 36 #[.int .i64 0,.int .i64 0] (by with_reducible exact aa rk) fy rfl (by simp[Value.oneCell']) ?_)
       | fail)
      (try go_frame)
      refine leaves_cons (f:=51) (args:= #[.pointer (some ⟨B+1,0,none⟩)]) (by simp) (by simp[go_sem]) ?_
      refine(zd _ _).mono ?_;rintro e u' w'' ⟨rfl,rfl,rfl⟩;refine⟨_,xV _ _ B (B+1) Cs #[.int .i64 0,.int .i64 0] rfl rfl (aa ug) (aa HF8) (aa nB) rfl,aa kQ _ _ ⟨eL (eL (aa lf).bel B (ax _) Cs) (B+1) (by omega) _,fun p' j' h=> ?_,fun er' a' h=> ?_⟩⟩
      ·rw[aa HE] at h
       injection h with h;injection h with h1 h2
       subst h1;exact⟨S6,by rw[aa gz];rfl,aa eR,(((aa qa).setRow (g:=B) (by have:=(aa HX).2.2.2.1;omega) Cs).setRow (g:=B+1) (by have:=(aa HX).2.2.2.1;omega) _).mono (by have:=(aa HX).2.2.2.1;omega)⟩
      ·rw[aa HE] at h;cases h
     ·have hE:=aa mr
      rw[ac hl6] at hE;have HE:=ab hE;have q6:(0:Int) < (l6.length:Int):=by omega
      clear hl6 hE;go_wp2_with fail;refine(aa fw).mono ?_;rintro e w7 ⟨rfl,hb7⟩;unfold aC;go_wp2_with fail;exact aa mH 2 _ w7 (aa HE) ((aa lf).below hb7) _ rfl rfl
  ·have q32:((b:Int) !=32)=true:=by simp;omega
   by_cases vr:b=58
   ·have bQ:Hid (RR=raB s bh l):=ab (by rw[(aa qc).1,aa iH,ac (fun q=>q.2 vr),aT];rfl)
    have bQ:=ab ((aa bQ).trans ((aa qc).2 _ _));have q58:((b:Int) !=58)=false:=by simp;omega
    clear vr jd qc iH;go_wp2_with fail;rw[show w1.alloc (.cells #[.slice xa l.length cap,.int .i64 (s.size:Int),.int .i64 0,.map (some w0.heap.size)] 105)=w2 from (aa gL).1.symm];rw[show w1.heap.size=z from (aa gL).2.symm];clear gL;have HA:Hid (RR=aR (et C.E 400 bh l) fun S q=>aR (ge C.E S q) fun S m=>if m.length=0 then .ok (S,m) else .error (2,(ak C.E 0 m).a)):=ab (aa bQ)
    have HD:Hid (Calls prog 54 #[.pointer (some ⟨z,0,none⟩),.pointer (some ⟨B,0,none⟩)] w2 fun e w'=>iK C 0 (z+1) B w2 (et C.E 400 bh l) e w'):=ab (by
     have q:=zt (B:=z+1) (S:=_) w2 (aa HX).1 (aa HX).2.1 (aa H2).st.rdr ((aa HX).2.2.1.but2 (aa H2).st.but (aa HX).2.1) (aa H2).st.stm (bJ (aa HX).2.2.2.2 (aa H2).st.but.size) rfl rfl rfl rfl;rw[aa iu] at q;exact q)
    clear bQ;refine(aa HD).mono ?_;intro e w5 hp;obtain⟨qF,wy,iD⟩:=(aa H2).post (aa iu) (aa HX).2.2.2.1 hp;clear hp HD
    cases fj:et C.E 400 bh l with
    | error x=>
     obtain⟨er,i⟩:=x;rw[fj] at iD;have iD:e=aC er i:=iD;subst iD;have hE:=aa HA;rw[fj,dn] at hE;clear fj;unfold aC;go_wp2_with fail;exact aa mH er i w5 hE qF _ rfl rfl
    | ok x=>
     obtain⟨P5,l5⟩:=x;rw[fj] at iD;obtain⟨he5,S5,h5⟩:=iD;subst he5;have H5:=ab h5;have hE:=aa HA;rw[fj,aT] at hE;have nG:=ab hE;have HY:Hid (Calls prog 55 #[.pointer (some ⟨z,0,none⟩),.pointer (some ⟨B,0,none⟩)] w5 fun e w'=>iK C 0 (z+1) B w5 (ge C.E P5 l5) e w'):=ab (by
      have q:=zc (B:=z+1) w5 (aa HX).1 h5.st.rdr h5.st.stm;rw[aa iu] at q;exact q)
     clear fj h5 qF wy hE HA;go_wp2_with fail;refine(aa HY).mono ?_;intro e w6 hp;obtain⟨na,ww,dV⟩:=(aa H5).post (aa iu) (aa HX).2.2.2.1 hp;clear hp HY
     cases hr6:ge C.E P5 l5 with
     | error x=>
      obtain⟨er,i⟩:=x;rw[hr6] at dV;have dV:e=aC er i:=dV;subst dV;have hE:=aa nG;rw[hr6,dn] at hE;clear hr6;unfold aC;go_wp2_with fail;exact aa mH er i w6 hE na _ rfl rfl
     | ok x=>
      obtain⟨P6,l6⟩:=x;rw[hr6] at dV;obtain⟨he6,S6,h6⟩:=dV;subst he6;have hE:=aa nG;rw[hr6,aT] at hE;have H6:=ab h6;have mr:=ab hE;obtain⟨rW,cap6,off6,nc,k61,k62, -, -⟩:=h6.st.rdr.blk;rw[aa iu] at nc;have c0:w6.cell? ⟨z,0,none⟩=some (.slice rW l6.length cap6):=cr nc;have fw:Hid (Calls prog 56 #[.pointer (some ⟨z,0,none⟩)] w6 fun e w'=>e=aC 2 (ak C.E 0 l6).a∧Below w6.heap.size w6 w'):=ab (by
       have q:=rq w6 h6.st.rdr;rw[aa iu] at q;exact q)
      have lf:=ab na;clear hr6 h6 nc ww hE nG H5 na k61 k62
      by_cases hl6:l6.length=0
      ·have hE:=aa mr
       rw[af hl6] at hE;have HE:=ab hE;have q6:¬(0:Int) < (l6.length:Int):=by omega
       clear hl6 hE;obtain⟨Cs,jM⟩:∃Cs,Cs=S6.cells:=⟨_,rfl⟩;have qJ:Cs.size=24:=by rw[jM];rfl
       have oR:Cs.all (·.oneCell')=true:=by rw[jM];exact SV.cells_one S6
       have hb6:w6.heap[B]? =some (.cells Cs 30 (0,0)):=by rw[jM];exact(aa H6).st.stm.box
       have qa:Hid (SLies (z+1) w6 S6):=ab (⟨(aa H6).st.stm.txt,(aa H6).st.stm.tg,(aa H6).st.stm.va,(aa H6).st.stm.pa,(aa H6).st.stm.ps,(aa H6).st.stm.ls⟩);have gC:=ab hb6;have H16:=ab oR;have nB:=ab qJ;have kC:=ab (cm w6 B Cs Cs _ _ hb6);have rk:=ab ((dH w6 B (B+1) Cs (by omega)).trans (aa lf).fbox)
       have HF8:=ab (cm (w6.setRow B Cs) (B+1) _ #[.int .i64 0,.int .i64 0] _ _ (aa rk));have ug:=ab ((dH (w6.setRow B Cs) (B+1) B #[.int .i64 0,.int .i64 0] (by omega)).trans (aa kC))
       have gz:Hid (S6.v=.agg Cs):=ab (by rw[jM];rfl)
       have eR:Hid (S6.can=P6):=ab ((aa H6).st.stm.can);clear qJ oR hb6 jM;go_wp2_with (first
        | (refine gG rfl 30 _ rfl B rfl 30 Cs (0,0) _ (aa gC) underlying30 rfl (cn.trans (by rw[aa nB])) ?_)
        | (refine aX rfl 30 _ _ rfl B Cs rfl rfl 30 Cs (aa gC) (cn.trans (by rw[aa nB])) rfl (aa H16) ?_)
        | (refine aX rfl 36 _ _ rfl (B+1) #[.int .i64 0,.int .i64 0] rfl rfl 36 #[.int .i64 0,.int .i64 0] (by with_reducible exact aa rk) fy rfl (by simp[Value.oneCell']) ?_)
        | fail)
       (try go_frame)
       refine leaves_cons (f:=51) (args:= #[.pointer (some ⟨B+1,0,none⟩)]) (by simp) (by simp[go_sem]) ?_
       refine(zd _ _).mono ?_;rintro e u' w'' ⟨rfl,rfl,rfl⟩;refine⟨_,xV _ _ B (B+1) Cs #[.int .i64 0,.int .i64 0] rfl rfl (aa ug) (aa HF8) (aa nB) rfl,aa kQ _ _ ⟨eL (eL (aa lf).bel B (ax _) Cs) (B+1) (by omega) _,fun p' j' h=> ?_,fun er' a' h=> ?_⟩⟩
       ·rw[aa HE] at h
        injection h with h;injection h with h1 h2
        subst h1;exact⟨S6,by rw[aa gz];rfl,aa eR,(((aa qa).setRow (g:=B) (by have:=(aa HX).2.2.2.1;omega) Cs).setRow (g:=B+1) (by have:=(aa HX).2.2.2.1;omega) _).mono (by have:=(aa HX).2.2.2.1;omega)⟩
       ·rw[aa HE] at h;cases h
      ·have hE:=aa mr
       rw[ac hl6] at hE;have HE:=ab hE;have q6:(0:Int) < (l6.length:Int):=by omega
       clear hl6 hE;go_wp2_with fail;refine(aa fw).mono ?_;rintro e w7 ⟨rfl,hb7⟩;unfold aC;go_wp2_with fail;exact aa mH 2 _ w7 (aa HE) ((aa lf).below hb7) _ rfl rfl
   ·have q58:((b:Int) !=58)=true:=by simp;omega
    have su:Hid (RR=aR (dO C.E l) fun t r=>raB s {bh with lab:=t} r):=ab (by rw[(aa qc).1,aa iH,af ⟨jd,vr⟩])
    have fY:Hid (Calls prog 53 #[.pointer (some ⟨z,0,none⟩)] w2 fun e w'=>fV lD C 0 w2 (dO C.E l) e w'):=ab (by
     have q:=vP w2 (aa H2).st.rdr;rw[aa iu] at q;exact q)
    have eE:=ab (fun t q h=>oD (t:=t) (r:=q) (aa H2).st.rdr h)
    clear vr jd iH;go_wp2_with fail;rw[show w1.alloc (.cells #[.slice xa l.length cap,.int .i64 (s.size:Int),.int .i64 0,.map (some w0.heap.size)] 105)=w2 from (aa gL).1.symm];rw[show w1.heap.size=z from (aa gL).2.symm];clear gL;refine(aa fY).mono ?_;intro e w3 hp;clear fY
    cases hr3:dO C.E l with
    | error x=>
     obtain⟨er,i⟩:=x;obtain⟨hb3,rfl⟩:=dB hp hr3;have hE:=aa su;rw[hr3,dn] at hE;have an:=(aa H2).bx.but2 (z:=C.z) (But2.of hb3) (by have:=(aa HX).2.2.2.1;rw[aa iu];exact this)
     clear hr3 hp;unfold aC;go_wp2_with fail;exact aa mH er i w3 hE an _ rfl rfl
    | ok x=>
     obtain⟨t,r⟩:=x;obtain⟨hb3,rfl,hR3⟩:=dC hp hr3;have hE:=aa su;rw[hr3,aT] at hE;have bQ:=ab (hE.trans ((aa qc).2 _ _));have h3:=(aa H2).st.next (aa HX).1 hb3 hR3;have c0:=h3.stm.cell (k:=0) rfl;have f0:=h3.stm.fz 0;have an:=((aa H2).bx.but2 (z:=C.z) (But2.of hb3) (by have:=(aa HX).2.2.2.1;rw[aa iu];exact this))
     have tU:=ab (aa eE t r hr3);have h4:=h3.lab (aa HX).1 (aa tU);have H4:Hid (RaS C z B w w2 (w3.setCell ⟨B,0,none⟩ (.string t)) r {bh with lab:=t} {bh with lab:=t}):=ab (⟨h4,an.but2 (z:=C.z) ((But2.refl C.z B w3).set 0 (.string t)) (by have:=(aa HX).2.2.2.1;rw[aa iu];exact this)⟩)
     clear hr3 hp hb3 hR3 hE su qc h3 an h4 eE;go_wp2_with fail;obtain⟨w4,hw4⟩:∃w4,w4=w3.setCell ⟨B,0,none⟩ (.string t):=⟨_,rfl⟩;rw[←hw4] at H4 ⊢;clear hw4 c0 f0 tU;have HA:Hid (RR=aR (et C.E 400 {bh with lab:=t} r) fun S q=>aR (ge C.E S q) fun S m=>if m.length=0 then .ok (S,m) else .error (2,(ak C.E 0 m).a)):=ab (aa bQ)
     have HD:Hid (Calls prog 54 #[.pointer (some ⟨z,0,none⟩),.pointer (some ⟨B,0,none⟩)] w4 fun e w'=>iK C 0 (z+1) B w4 (et C.E 400 {bh with lab:=t} r) e w'):=ab (by
      have q:=zt (B:=z+1) (S:=_) w4 (aa HX).1 (aa HX).2.1 (aa H4).st.rdr ((aa HX).2.2.1.but2 (aa H4).st.but (aa HX).2.1) (aa H4).st.stm (bJ (aa HX).2.2.2.2 (aa H4).st.but.size) rfl rfl rfl rfl;rw[aa iu] at q;exact q)
     clear bQ;refine(aa HD).mono ?_;intro e w5 hp;obtain⟨qF,wy,iD⟩:=(aa H4).post (aa iu) (aa HX).2.2.2.1 hp;clear hp HD
     cases fj:et C.E 400 {bh with lab:=t} r with
     | error x=>
      obtain⟨er,i⟩:=x;rw[fj] at iD;have iD:e=aC er i:=iD;subst iD;have hE:=aa HA;rw[fj,dn] at hE;clear fj;unfold aC;go_wp2_with fail;exact aa mH er i w5 hE qF _ rfl rfl
     | ok x=>
      obtain⟨P5,l5⟩:=x;rw[fj] at iD;obtain⟨he5,S5,h5⟩:=iD;subst he5;have H5:=ab h5;have hE:=aa HA;rw[fj,aT] at hE;have nG:=ab hE;have HY:Hid (Calls prog 55 #[.pointer (some ⟨z,0,none⟩),.pointer (some ⟨B,0,none⟩)] w5 fun e w'=>iK C 0 (z+1) B w5 (ge C.E P5 l5) e w'):=ab (by
       have q:=zc (B:=z+1) w5 (aa HX).1 h5.st.rdr h5.st.stm;rw[aa iu] at q;exact q)
      clear fj h5 qF wy hE HA;go_wp2_with fail;refine(aa HY).mono ?_;intro e w6 hp;obtain⟨na,ww,dV⟩:=(aa H5).post (aa iu) (aa HX).2.2.2.1 hp;clear hp HY
      cases hr6:ge C.E P5 l5 with
      | error x=>
       obtain⟨er,i⟩:=x;rw[hr6] at dV;have dV:e=aC er i:=dV;subst dV;have hE:=aa nG;rw[hr6,dn] at hE;clear hr6;unfold aC;go_wp2_with fail;exact aa mH er i w6 hE na _ rfl rfl
      | ok x=>
       obtain⟨P6,l6⟩:=x;rw[hr6] at dV;obtain⟨he6,S6,h6⟩:=dV;subst he6;have hE:=aa nG;rw[hr6,aT] at hE;have H6:=ab h6;have mr:=ab hE;obtain⟨rW,cap6,off6,nc,k61,k62, -, -⟩:=h6.st.rdr.blk;rw[aa iu] at nc;have c0:w6.cell? ⟨z,0,none⟩=some (.slice rW l6.length cap6):=cr nc;have fw:Hid (Calls prog 56 #[.pointer (some ⟨z,0,none⟩)] w6 fun e w'=>e=aC 2 (ak C.E 0 l6).a∧Below w6.heap.size w6 w'):=ab (by
        have q:=rq w6 h6.st.rdr;rw[aa iu] at q;exact q)
       have lf:=ab na;clear hr6 h6 nc ww hE nG H5 na k61 k62
       by_cases hl6:l6.length=0
       ·have hE:=aa mr
        rw[af hl6] at hE;have HE:=ab hE;have q6:¬(0:Int) < (l6.length:Int):=by omega
        clear hl6 hE;obtain⟨Cs,jM⟩:∃Cs,Cs=S6.cells:=⟨_,rfl⟩;have qJ:Cs.size=24:=by rw[jM];rfl
        have oR:Cs.all (·.oneCell')=true:=by rw[jM];exact SV.cells_one S6
        have hb6:w6.heap[B]? =some (.cells Cs 30 (0,0)):=by rw[jM];exact(aa H6).st.stm.box
        have qa:Hid (SLies (z+1) w6 S6):=ab (⟨(aa H6).st.stm.txt,(aa H6).st.stm.tg,(aa H6).st.stm.va,(aa H6).st.stm.pa,(aa H6).st.stm.ps,(aa H6).st.stm.ls⟩);have gC:=ab hb6;have H16:=ab oR;have nB:=ab qJ;have kC:=ab (cm w6 B Cs Cs _ _ hb6);have rk:=ab ((dH w6 B (B+1) Cs (by omega)).trans (aa lf).fbox)
        have HF8:=ab (cm (w6.setRow B Cs) (B+1) _ #[.int .i64 0,.int .i64 0] _ _ (aa rk));have ug:=ab ((dH (w6.setRow B Cs) (B+1) B #[.int .i64 0,.int .i64 0] (by omega)).trans (aa kC))
        have gz:Hid (S6.v=.agg Cs):=ab (by rw[jM];rfl)
        have eR:Hid (S6.can=P6):=ab ((aa H6).st.stm.can);clear qJ oR hb6 jM;go_wp2_with (first
         | (refine gG rfl 30 _ rfl B rfl 30 Cs (0,0) _ (aa gC) underlying30 rfl (cn.trans (by rw[aa nB])) ?_)
         | (refine aX rfl 30 _ _ rfl B Cs rfl rfl 30 Cs (aa gC) (cn.trans (by rw[aa nB])) rfl (aa H16) ?_)
         | (refine aX rfl 36 _ _ rfl (B+1) #[.int .i64 0,.int .i64 0] rfl rfl 36 #[.int .i64 0,.int .i64 0] (by with_reducible exact aa rk) fy rfl (by simp[Value.oneCell']) ?_)
         | fail)
        (try go_frame)
        refine leaves_cons (f:=51) (args:= #[.pointer (some ⟨B+1,0,none⟩)]) (by simp) (by simp[go_sem]) ?_
        refine(zd _ _).mono ?_;rintro e u' w'' ⟨rfl,rfl,rfl⟩;refine⟨_,xV _ _ B (B+1) Cs #[.int .i64 0,.int .i64 0] rfl rfl (aa ug) (aa HF8) (aa nB) rfl,aa kQ _ _ ⟨eL (eL (aa lf).bel B (ax _) Cs) (B+1) (by omega) _,fun p' j' h=> ?_,fun er' a' h=> ?_⟩⟩
        ·rw[aa HE] at h
         injection h with h;injection h with h1 h2
         subst h1;exact⟨S6,by rw[aa gz];rfl,aa eR,(((aa qa).setRow (g:=B) (by have:=(aa HX).2.2.2.1;omega) Cs).setRow (g:=B+1) (by have:=(aa HX).2.2.2.1;omega) _).mono (by have:=(aa HX).2.2.2.1;omega)⟩
        ·rw[aa HE] at h;cases h
       ·have hE:=aa mr
        rw[ac hl6] at hE;have HE:=ab hE;have q6:(0:Int) < (l6.length:Int):=by omega
        clear hl6 hE;go_wp2_with fail;refine(aa fw).mono ?_;rintro e w7 ⟨rfl,hb7⟩;unfold aC;go_wp2_with fail;exact aa mH 2 _ w7 (aa HE) ((aa lf).below hb7) _ rfl rfl
end Go.Proofs.YtlmnjbipfacniaaGreatDoor
namespace Go.Proofs
open Go.Shelf Go.RowKit Go.Lib
def Tryz.lays99_ren:Go.Shelf.Ren:=⟨fun | 99=>21 | 206=>46 | n=>n,fun | 9=>9 | 4=>4 | 3=>3 | n=>n,fun | n=>n⟩
theorem Tryz.lays99:Go.Proofs.Lays.n99 Tryz.prog Tryz.lays99_ren:={
 mixed:=by kernel_rfl
 f99:=Tryz.func21.trans (congrArg some (by kernel_rfl))
 f206:=Tryz.func46.trans (congrArg some (by kernel_rfl))
 t3:=Tryz.underlying3
 a3:=Tryz.isAgg3
 z3:=Tryz.sizeOf3
 v3:=Tryz.zeroValue3
 t4:=Tryz.underlying4
 a4:=Tryz.isAgg4
 z4:=Tryz.sizeOf4
 v4:=Tryz.zeroValue4
 t9:=Tryz.underlying9
 a9:=Tryz.isAgg9
 z9:=Tryz.sizeOf9
 v9:=Tryz.zeroValue9}
theorem Tryz.strings_HasPrefix (s p:ByteArray) (w:World):
  Calls Tryz.prog 21 #[.string s,.string p] w fun e w'=>e=.returned (.bool (Lib.hasPrefix s.data.toList p.data.toList))∧w'=w:=Any.strings_HasPrefix Tryz.lays99 s p w
end Go.Proofs
