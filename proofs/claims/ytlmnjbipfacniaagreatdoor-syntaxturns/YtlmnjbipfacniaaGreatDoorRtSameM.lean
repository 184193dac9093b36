/- The document's Bare of a right statement. The document's Sam -/
import Derived.Test.YtlmnjbipfacniaaGreatDoorRtBare6M
import Derived.Test.YtlmnjbipfacniaaGreatDoorPrintExt4M
import Derived.Test.YtlmnjbipfacniaaGreatDoorRdLM
import Derived.Test.YtlmnjbipfacniaaGreatDoorRegionSinkM
import Derived.WalkKit
import Derived.Test.YtlmnjbipfacniaaGreatDoorRdGM
import Derived.Deep.RegionHeld3
set_option maxRecDepth 100000
set_option maxHeartbeats 4000000
namespace Go.Proofs.YtlmnjbipfacniaaGreatDoor
open Go.Proofs.Tryz
open Go.RowKit
theorem bs_any (S:SV) (w:World) (dx:S.In w) (eZ:S.wrong=0):Calls prog 10 #[S.v] w (rB w S):=by
 obtain⟨-,cw⟩:=qi eZ;have jb:S.k=1∨S.k=2∨S.k=3∨S.k=4∨S.k=5∨S.k=6∨S.k=7:=by
  have hk:=cw;unfold SV.kndE at hk
  (repeat' split at hk) <;> omega
 obtain⟨C,hC⟩:∃C,C=S.cells:=⟨_,rfl⟩;have dc:S.v=.agg C:=by rw[hC];rfl
 obtain⟨OC,hOC⟩:∃OC,OC=S.u0.cells:=⟨_,rfl⟩;have HBU:Hid (prog.built 30 [(0,.string S.lab),(1,.int .i64 S.k),(9,.string S.al),(10,.string S.ye),(11,.string S.no)]=some OC):=ab (by rw[hOC];exact Kt S.lab S.al S.ye S.no S.k)
 have HO24:Hid (OC.size=24):=ab (by rw[hOC];rfl)
 have HOO:Hid (OC.all (·.oneCell')=true):=ab (by rw[hOC];exact SV.cells_one _)
 obtain⟨W0,lo⟩:∃W0,W0=(w.alloc (.cells C 30)).alloc (.cells Z24 30):=⟨_,rfl⟩;have aO:W0.heap.size=w.heap.size+1+1:=by rw[lo];simp
 have n9:W0.heap[w.heap.size]? =some (.cells C 30 (0,0)):=by rw[lo];exact bL (by simp) (aw rfl)
 have lM:W0.heap[w.heap.size+1]? =some (.cells bh.cells 30 (0,0)):=by rw[lo];exact aw (by simp)
 have aZ:Below w.heap.size w W0:=by rw[lo];exact(ba _).alloc (by simp) _
 obtain⟨W,hW⟩:∃W,W=(W0.alloc (.cells Z24 30)).setRow W0.heap.size OC:=⟨_,rfl⟩;have ot:Hid ((W0.alloc (.cells Z24 30)).heap[W0.heap.size]? =some (.cells bh.cells 30 (0,0))):=ab (aw rfl);have H0:Hid (BS w W S S.u0):=ab (by
  have hn:=aa ot;rw[hW];refine⟨?_, ?_, ?_,eL (aZ.alloc (by omega) _) _ (by omega) _,dx,fun X _ _=>u0_in dx X⟩
  ·rw[←hC];exact(dH _ _ _ _ (by omega)).trans (bL (by omega) n9)
  ·exact(dH _ _ _ _ (by omega)).trans (bL (by omega) lM)
  ·rw[←hOC,←aO];exact cm _ _ _ _ _ _ hn)
 have jX:=ab (fun (hq:S.tg.badX=0) (X:World) (h:Below w.heap.size w X)=>show Calls prog 28 #[.agg #[.int .i64 S.tg.k,.string S.tg.t,.int .i64 S.tg.n,.string S.tg.nm,.slice S.tg.xa S.tg.len S.tg.cap]] X fun e w'=>(∃U:PT,e=.returned (pv U)∧U.can=S.tg.bex∧bd X.heap.size w' U)∧Below X.heap.size X w' from FI S.tg X (PT.In.later h dx.tg) hq)
 have gU:=ab (fun (hq:S.va.badX=0) (X:World) (h:Below w.heap.size w X)=>show Calls prog 28 #[.agg #[.int .i64 S.va.k,.string S.va.t,.int .i64 S.va.n,.string S.va.nm,.slice S.va.xa S.va.len S.va.cap]] X fun e w'=>(∃U:PT,e=.returned (pv U)∧U.can=S.va.bex∧bd X.heap.size w' U)∧Below X.heap.size X w' from FI S.va X (PT.In.later h dx.va) hq)
 have mI:=ab (fun (hq:S.pa.bad=0) (X:World) (h:Below w.heap.size w X)=>show Calls prog 29 #[.agg #[.int .i64 S.pa.k,.string S.pa.t,.int .i64 S.pa.n,.string S.pa.nm,.slice S.pa.xa S.pa.len S.pa.cap]] X fun e w'=>(∃U:PT,e=.returned (pv U)∧U.can=S.pa.bar∧bd X.heap.size w' U)∧Below X.heap.size X w' from Ir S.pa X (PT.In.later h dx.pa) hq)
 have b0:W0.cell? ⟨w.heap.size,0,none⟩=some (.string S.lab):=aY n9 (by rw[hC];rfl)
 have b1:W0.cell? ⟨w.heap.size,1,none⟩=some (.int .i64 S.k):=aY n9 (by rw[hC];rfl)
 have b21:W0.cell? ⟨w.heap.size,21,none⟩=some (.string S.al):=aY n9 (by rw[hC];rfl)
 have b22:W0.cell? ⟨w.heap.size,22,none⟩=some (.string S.ye):=aY n9 (by rw[hC];rfl)
 have b23:W0.cell? ⟨w.heap.size,23,none⟩=some (.string S.no):=aY n9 (by rw[hC];rfl)
 have HW:=ab hW;have fP:=ab lo;have ao:=ab aO;have ov:=ab cw;have vJ:=ab jb;rw[dc];clear hW lo aO n9 lM aZ hC hOC dc dx eZ cw jb;go_enter func10,ntmps10;go_upto_region 1 with fail
 rw[show (w.alloc (.cells C 30)).alloc (.cells Z24 30)=W0 from (aa fP).symm];clear fP;go_upto_region 2 with (first
  | (refine Hn rfl 30 0 1 9 10 11 (.tmp 5) (.tmp 7) (.tmp 9) (.tmp 11) (.tmp 13) (.string S.lab) (.int .i64 S.k) (.string S.al) (.string S.ye) (.string S.no) rfl OC rfl rfl rfl rfl rfl (aa HBU) ?_)
  | (refine aX rfl 30 _ _ rfl W0.heap.size OC rfl rfl 30 bh.cells (by with_reducible exact aa ot) (cn.trans (by rw[aa HO24])) (by rw[aa HO24];rfl) (aa HOO) ?_)
  | fail)
 rw[show (W0.alloc (.cells Z24 30)).setRow W0.heap.size OC=W from (aa HW).symm,aa ao];clear HW HBU HO24 HOO ot ao b0 b1 b21 b22 b23;rcases aa vJ with hk | hk | hk | hk | hk | hk | hk
 ·have cw:=aa ov
  have ft:=ab hk;clear ov vJ cw hk jX gU mI
  as_aux_lemma=>
   have e1:W.cell? ⟨w.heap.size,1,none⟩=some (.int .i64 1):=by have h:=(aa H0).cell (i:=1) (x:=.int .i64 S.k) rfl;rw[aa ft] at h;exact h
   obtain⟨O,hO⟩:∃O,O=(S.u0:SV).cells:=⟨_,rfl⟩;have HOE:=ab hO;have fX:Hid (O.size=24):=ab (by rw[hO];rfl)
   have oZ:Hid (O.all (·.oneCell')=true):=ab (by rw[hO];exact SV.cells_one _)
   have HO:Hid ((W).heap[w.heap.size+1+1]? =some (.cells O 30 (0,0))):=ab (by rw[hO];exact(aa H0).out)
   have HX:Hid ((W).heap[w.heap.size+1]? =some (.cells bh.cells 30 (0,0))):=ab ((aa H0).res);have ef:Hid (rB w S (.returned (.agg O)) (W.setRow (w.heap.size+1) O)):=ab (by rw[hO];exact(aa H0).fin (by
    unfold SV.can SV.bst SV.u0;rw[aa ft];simp only[vZ];rfl))
   clear hO;go_wp2_with (first
    | (refine gG rfl 30 _ rfl (w.heap.size+1+1) rfl 30 O (0,0) _ (by with_reducible exact aa HO) underlying30 rfl (cn.trans (by rw[aa fX])) ?_)
    | (refine aX rfl 30 _ _ rfl (w.heap.size+1) O rfl rfl 30 bh.cells (by with_reducible exact aa HX) (cn.trans (by rw[aa fX])) (by rw[aa fX];rfl) (aa oZ) ?_)
    | fail)
   (try simp only[Exit.inBlock,Exit.then])
   refine ck (dT rfl _ _ (w.heap.size+1) 30 O (0,0) _ rfl (cm _ _ _ _ _ _ (aa HX)) underlying30 rfl (cn.trans (by rw[aa fX]))) rfl ?_
   exact aa ef
 ·have cw:=aa ov
  have iC:S.va.badX=0:=by
   unfold SV.kndE at cw;rw[hk] at cw;exact(fG cw).2
  have gU:=ab (aa gU iC);have ft:=ab hk;clear ov vJ cw hk iC jX mI
  as_aux_lemma=>
   have e1:W.cell? ⟨w.heap.size,1,none⟩=some (.int .i64 2):=by have h:=(aa H0).cell (i:=1) (x:=.int .i64 S.k) rfl;rw[aa ft] at h;exact h
   have e7:W.cell? ⟨w.heap.size,7,none⟩=some (.int .i64 S.va.k):=(aa H0).cell rfl;have e8:W.cell? ⟨w.heap.size,8,none⟩=some (.string S.va.t):=(aa H0).cell rfl;have e9:W.cell? ⟨w.heap.size,9,none⟩=some (.int .i64 S.va.n):=(aa H0).cell rfl;have e10:W.cell? ⟨w.heap.size,10,none⟩=some (.string S.va.nm):=(aa H0).cell rfl;have e11:W.cell? ⟨w.heap.size,11,none⟩=some (.slice S.va.xa S.va.len S.va.cap):=(aa H0).cell rfl;go_wp2_with fail;refine(aa gU _ (aa H0).bel).mono ?_;rintro e w1 ⟨⟨T1,rfl,hT,hL⟩,hb⟩;have ay:=(aa H0).lt;have lx:=ab ((aa H0).below hb);have hL:bd (w.heap.size+1+1+1) w1 T1:=fun X hX=>hL X fun i h1 h2=>hX i (by omega) h2
   have oX:=ab hT;obtain⟨W1,ep⟩:∃W1,W1=(((((w1).setCell ⟨w.heap.size+1+1,7,none⟩ (.int .i64 T1.k)).setCell ⟨w.heap.size+1+1,8,none⟩ (.string T1.t)).setCell ⟨w.heap.size+1+1,9,none⟩ (.int .i64 T1.n)).setCell ⟨w.heap.size+1+1,10,none⟩ (.string T1.nm)).setCell ⟨w.heap.size+1+1,11,none⟩ (.slice T1.xa T1.len T1.cap):=⟨_,rfl⟩;have H1:Hid (BS w W1 S {S.u0 with va:=T1}):=ab (by rw[ep];exact(aa lx).va hL)
   have ff:=fun k=>cT w1 (w.heap.size+1+1) k _ _ (aa lx).out
   have au:=(aa lx).lt;have bi:=ab ep;clear hT hL hb ay ep gU;have o7:(w1).cell? ⟨w.heap.size+1+1,7,none⟩=some (.int .i64 0):=aY (aa lx).out rfl;have o8:(w1).cell? ⟨w.heap.size+1+1,8,none⟩=some (.string ⟨#[]⟩):=aY (aa lx).out rfl;have o9:(w1).cell? ⟨w.heap.size+1+1,9,none⟩=some (.int .i64 0):=aY (aa lx).out rfl;have o10:(w1).cell? ⟨w.heap.size+1+1,10,none⟩=some (.string ⟨#[]⟩):=aY (aa lx).out rfl;have o11:(w1).cell? ⟨w.heap.size+1+1,11,none⟩=some (.slice none 0 0):=aY (aa lx).out rfl;unfold pv;go_upto_region 13 with fail
   rw[show (((((w1).setCell ⟨w.heap.size+1+1,7,none⟩ (.int .i64 T1.k)).setCell ⟨w.heap.size+1+1,8,none⟩ (.string T1.t)).setCell ⟨w.heap.size+1+1,9,none⟩ (.int .i64 T1.n)).setCell ⟨w.heap.size+1+1,10,none⟩ (.string T1.nm)).setCell ⟨w.heap.size+1+1,11,none⟩ (.slice T1.xa T1.len T1.cap)=W1 from (aa bi).symm];clear ff au bi lx e7 e8 e9 e10 e11 o7 o8 o9 o10 o11;clear e1;have e1:W1.cell? ⟨w.heap.size,1,none⟩=some (.int .i64 2):=by have h:=(aa H1).cell (i:=1) (x:=.int .i64 S.k) rfl;rw[aa ft] at h;exact h
   obtain⟨O,hO⟩:∃O,O=({S.u0 with va:=T1}:SV).cells:=⟨_,rfl⟩
   have HOE:=ab hO;have fX:Hid (O.size=24):=ab (by rw[hO];rfl)
   have oZ:Hid (O.all (·.oneCell')=true):=ab (by rw[hO];exact SV.cells_one _)
   have HO:Hid ((W1).heap[w.heap.size+1+1]? =some (.cells O 30 (0,0))):=ab (by rw[hO];exact(aa H1).out)
   have HX:Hid ((W1).heap[w.heap.size+1]? =some (.cells bh.cells 30 (0,0))):=ab ((aa H1).res);have ef:Hid (rB w S (.returned (.agg O)) (W1.setRow (w.heap.size+1) O)):=ab (by rw[hO];exact(aa H1).fin (by
    unfold SV.can SV.bst SV.u0;rw[aa ft];simp only[vZ,aa oX];rfl))
   clear hO;go_wp2_with (first
    | (refine gG rfl 30 _ rfl (w.heap.size+1+1) rfl 30 O (0,0) _ (by with_reducible exact aa HO) underlying30 rfl (cn.trans (by rw[aa fX])) ?_)
    | (refine aX rfl 30 _ _ rfl (w.heap.size+1) O rfl rfl 30 bh.cells (by with_reducible exact aa HX) (cn.trans (by rw[aa fX])) (by rw[aa fX];rfl) (aa oZ) ?_)
    | fail)
   (try simp only[Exit.inBlock,Exit.then])
   refine ck (dT rfl _ _ (w.heap.size+1) 30 O (0,0) _ rfl (cm _ _ _ _ _ _ (aa HX)) underlying30 rfl (cn.trans (by rw[aa fX]))) rfl ?_
   exact aa ef
 ·have cw:=aa ov
  have hq:dN [jo S.tg,S.va.wrongX]=0:=by
   unfold SV.kndE at cw;rw[hk] at cw;exact cw
  have kM:S.tg.badX=0:=(fG (rz (cI hq).1).1).2;have iC:S.va.badX=0:=(fG (cI (cI hq).2).1).2;clear hq;have jX:=ab (aa jX kM);have gU:=ab (aa gU iC);have ft:=ab hk;clear ov vJ cw hk kM iC mI
  as_aux_lemma=>
   have e1:W.cell? ⟨w.heap.size,1,none⟩=some (.int .i64 3):=by have h:=(aa H0).cell (i:=1) (x:=.int .i64 S.k) rfl;rw[aa ft] at h;exact h
   go_upto_region 8 with fail
   obtain⟨S0,aO⟩:∃S0:World→Prop,S0=fun w'=>w'.cell? ⟨w.heap.size,2,none⟩=some (.int .i64 S.tg.k)∧w'.cell? ⟨w.heap.size,3,none⟩=some (.string S.tg.t)∧w'.cell? ⟨w.heap.size,4,none⟩=some (.int .i64 S.tg.n)∧w'.cell? ⟨w.heap.size,5,none⟩=some (.string S.tg.nm)∧w'.cell? ⟨w.heap.size,6,none⟩=some (.slice S.tg.xa S.tg.len S.tg.cap)∧w'.cell? ⟨w.heap.size,7,none⟩=some (.int .i64 S.va.k)∧w'.cell? ⟨w.heap.size,8,none⟩=some (.string S.va.t)∧w'.cell? ⟨w.heap.size,9,none⟩=some (.int .i64 S.va.n)∧w'.cell? ⟨w.heap.size,10,none⟩=some (.string S.va.nm)∧w'.cell? ⟨w.heap.size,11,none⟩=some (.slice S.va.xa S.va.len S.va.cap):=⟨_,rfl⟩
   have aU:Hid (∀X U,BS w X S U→S0 X):=ab (fun X U h=>by rw[aO];exact⟨h.cell rfl,h.cell rfl,h.cell rfl,h.cell rfl,h.cell rfl,h.cell rfl,h.cell rfl,h.cell rfl,h.cell rfl,h.cell rfl⟩)
   have ao:=ab aO;have H1:=ab ((aa H0).below (aW _ _).drew);have hS:S0 W.drew:=aa aU _ _ (aa H1);clear aO;refine gZ 9 S0 ?_;intro F;refine aK F 0 ao hS ?_
   (try simp only[aH,aG])
   (try go_frame)
   refine aK F 1 ao hS ?_
   (try simp only[aH,aP,aG])
   (try go_frame)
   refine aK F 3 ao hS ?_
   (try simp only[aH,aP,aG])
   (try go_frame)
   refine aK F 4 ao hS ?_
   (try simp only[aH,aP,aG])
   (try go_frame)
   refine cg 2 (fun K2 ew=> ?_)
   go_simp;refine(aa jX _ (aa H1).bel).mono ?_;rintro e w2 ⟨⟨T2,rfl,hT,hL⟩,hb⟩;have ay:=(aa H1).lt;have H2:=ab ((aa H1).below hb);have lQ:Hid (bd (w.heap.size+1+1+1) w2 T2):=ab (fun X hX=>hL X fun i h1 h2=>hX i (by omega) h2)
   have ky:=ab hT;have HBB2:=ab hb;clear hT hL hb ay jX;unfold pv;clear hS;have hS:S0 w2:=aa aU _ _ (aa H2);refine ew _ _ hS ?_
   (try simp only[aH,aP,aG])
   (try go_frame)
   refine aK F 6 ao hS ?_
   (try simp only[aH,aP,aG])
   (try go_frame)
   refine cg 5 (fun K3 cO=> ?_)
   go_simp;refine(aa gU _ (aa H2).bel).mono ?_;rintro e w3 ⟨⟨T3,rfl,hT,hL⟩,hb⟩;have ay:=(aa H2).lt;have H3:=ab ((aa H2).below hb);have kB:Hid (bd (w.heap.size+1+1+1) w3 T3):=ab (fun X hX=>hL X fun i h1 h2=>hX i (by omega) h2)
   have tU:=ab hT;have wI:=ab hb;clear hT hL hb ay gU;unfold pv;clear hS;have hS:S0 w3:=aa aU _ _ (aa H3);refine cO _ _ hS ?_
   (try simp only[aH,aP,aG])
   (try go_frame)
   have lQ:Hid (bd (w.heap.size+1+1+1) w3 T2):=ab (fun X hX=>aa lQ X fun i h1 h2=>(hX i h1 (i6 h2 (aa wI).size)).trans ((aa wI).block i h2))
   obtain⟨W4,nr⟩:∃W4,W4=(((((w3).setCell ⟨w.heap.size+1+1,2,none⟩ (.int .i64 T2.k)).setCell ⟨w.heap.size+1+1,3,none⟩ (.string T2.t)).setCell ⟨w.heap.size+1+1,4,none⟩ (.int .i64 T2.n)).setCell ⟨w.heap.size+1+1,5,none⟩ (.string T2.nm)).setCell ⟨w.heap.size+1+1,6,none⟩ (.slice T2.xa T2.len T2.cap):=⟨_,rfl⟩;have h4:BS w W4 S {S.u0 with tg:=T2}:=by rw[nr];exact(aa H3).tg (aa lQ)
   have hL4:bd (w.heap.size+1+1+1) W4 T3:=fun X hX=>by
    have ho:∀i,i≠w.heap.size+1+1→W4.heap[i]? =w3.heap[i]? :=fun i hi=>by rw[nr];exact lT w3 (w.heap.size+1+1) 2 i T2 hi
    have hz:W4.heap.size=w3.heap.size:=by rw[nr];exact mS w3 (w.heap.size+1+1) 2 T2
    exact aa kB X fun i h1 h2=>(hX i h1 (by rw[hz];exact h2)).trans (ho i (by omega))
   have H4:=ab h4;obtain⟨W5,qS⟩:∃W5,W5=(((((W4).setCell ⟨w.heap.size+1+1,7,none⟩ (.int .i64 T3.k)).setCell ⟨w.heap.size+1+1,8,none⟩ (.string T3.t)).setCell ⟨w.heap.size+1+1,9,none⟩ (.int .i64 T3.n)).setCell ⟨w.heap.size+1+1,10,none⟩ (.string T3.nm)).setCell ⟨w.heap.size+1+1,11,none⟩ (.slice T3.xa T3.len T3.cap):=⟨_,rfl⟩;have H5:Hid (BS w W5 S {{S.u0 with tg:=T2} with va:=T3}):=ab (by rw[qS];exact h4.va hL4)
   have ff:=fun k=>cT w3 (w.heap.size+1+1) k _ _ (aa H3).out
   have fg:=fun k=>cT W4 (w.heap.size+1+1) k _ _ h4.out
   have au:=(aa H3).lt;have hlu:=h4.lt;have vD:=ab nr;have vC:=ab qS;clear h4 hL4 nr qS;have o2:(w3).cell? ⟨w.heap.size+1+1,2,none⟩=some (.int .i64 0):=aY (aa H3).out rfl;have o3:(w3).cell? ⟨w.heap.size+1+1,3,none⟩=some (.string ⟨#[]⟩):=aY (aa H3).out rfl;have o4:(w3).cell? ⟨w.heap.size+1+1,4,none⟩=some (.int .i64 0):=aY (aa H3).out rfl;have o5:(w3).cell? ⟨w.heap.size+1+1,5,none⟩=some (.string ⟨#[]⟩):=aY (aa H3).out rfl;have o6:(w3).cell? ⟨w.heap.size+1+1,6,none⟩=some (.slice none 0 0):=aY (aa H3).out rfl;refine cg 7 (fun K4 bH=> ?_)
   go_simp;rw[show (((((w3).setCell ⟨w.heap.size+1+1,2,none⟩ (.int .i64 T2.k)).setCell ⟨w.heap.size+1+1,3,none⟩ (.string T2.t)).setCell ⟨w.heap.size+1+1,4,none⟩ (.int .i64 T2.n)).setCell ⟨w.heap.size+1+1,5,none⟩ (.string T2.nm)).setCell ⟨w.heap.size+1+1,6,none⟩ (.slice T2.xa T2.len T2.cap)=W4 from (aa vD).symm];clear hS ff au o2 o3 o4 o5 o6;have o7:(W4).cell? ⟨w.heap.size+1+1,7,none⟩=some (.int .i64 0):=aY (aa H4).out rfl;have o8:(W4).cell? ⟨w.heap.size+1+1,8,none⟩=some (.string ⟨#[]⟩):=aY (aa H4).out rfl;have o9:(W4).cell? ⟨w.heap.size+1+1,9,none⟩=some (.int .i64 0):=aY (aa H4).out rfl;have o10:(W4).cell? ⟨w.heap.size+1+1,10,none⟩=some (.string ⟨#[]⟩):=aY (aa H4).out rfl;have o11:(W4).cell? ⟨w.heap.size+1+1,11,none⟩=some (.slice none 0 0):=aY (aa H4).out rfl;have hS:S0 W4:=aa aU _ _ (aa H4);refine bH _ _ hS ?_
   (try simp only[aH,aP,aG])
   (try go_frame)
   refine aK F 8 ao hS ?_
   (try simp only[aH,aP,aG])
   (try go_frame)
   refine g5 (by kernel_rfl) rfl (by kernel_rfl) (fun K5 dP=> ?_)
   go_simp;rw[show (((((W4).setCell ⟨w.heap.size+1+1,7,none⟩ (.int .i64 T3.k)).setCell ⟨w.heap.size+1+1,8,none⟩ (.string T3.t)).setCell ⟨w.heap.size+1+1,9,none⟩ (.int .i64 T3.n)).setCell ⟨w.heap.size+1+1,10,none⟩ (.string T3.nm)).setCell ⟨w.heap.size+1+1,11,none⟩ (.slice T3.xa T3.len T3.cap)=W5 from (aa vC).symm];refine dP _ _ ?_
   (try simp only[aH,aP,aG])
   (try go_frame)
   clear ew cO bH dP K2 K3 K4 K5 F hS ao aU S0 fg hlu vD vC H1 H2 H3 H4 lQ kB HBB2 wI o7 o8 o9 o10 o11;clear e1;have e1:W5.cell? ⟨w.heap.size,1,none⟩=some (.int .i64 3):=by have h:=(aa H5).cell (i:=1) (x:=.int .i64 S.k) rfl;rw[aa ft] at h;exact h
   obtain⟨O,hO⟩:∃O,O=({{S.u0 with tg:=T2} with va:=T3}:SV).cells:=⟨_,rfl⟩
   have HOE:=ab hO;have fX:Hid (O.size=24):=ab (by rw[hO];rfl)
   have oZ:Hid (O.all (·.oneCell')=true):=ab (by rw[hO];exact SV.cells_one _)
   have HO:Hid ((W5).heap[w.heap.size+1+1]? =some (.cells O 30 (0,0))):=ab (by rw[hO];exact(aa H5).out)
   have HX:Hid ((W5).heap[w.heap.size+1]? =some (.cells bh.cells 30 (0,0))):=ab ((aa H5).res);have ef:Hid (rB w S (.returned (.agg O)) (W5.setRow (w.heap.size+1) O)):=ab (by rw[hO];exact(aa H5).fin (by
    unfold SV.can SV.bst SV.u0;rw[aa ft];simp only[vZ,aa ky,aa tU];rfl))
   clear hO;go_wp2_with (first
    | (refine gG rfl 30 _ rfl (w.heap.size+1+1) rfl 30 O (0,0) _ (by with_reducible exact aa HO) underlying30 rfl (cn.trans (by rw[aa fX])) ?_)
    | (refine aX rfl 30 _ _ rfl (w.heap.size+1) O rfl rfl 30 bh.cells (by with_reducible exact aa HX) (cn.trans (by rw[aa fX])) (by rw[aa fX];rfl) (aa oZ) ?_)
    | fail)
   (try simp only[Exit.inBlock,Exit.then])
   refine ck (dT rfl _ _ (w.heap.size+1) 30 O (0,0) _ rfl (cm _ _ _ _ _ _ (aa HX)) underlying30 rfl (cn.trans (by rw[aa fX]))) rfl ?_
   exact aa ef
 ·have cw:=aa ov
  have hq:dN [S.va.wrongX,S.pa.wrong]=0:=by
   unfold SV.kndE at cw;rw[hk] at cw;exact cw
  have iC:S.va.badX=0:=(fG (cI hq).1).2;have nk:S.pa.bad=0:=(vO (cI (cI hq).2).1).2;clear hq;have gU:=ab (aa gU iC);have mI:=ab (aa mI nk);have ft:=ab hk;clear ov vJ cw hk iC nk jX
  as_aux_lemma=>
   have e1:W.cell? ⟨w.heap.size,1,none⟩=some (.int .i64 4):=by have h:=(aa H0).cell (i:=1) (x:=.int .i64 S.k) rfl;rw[aa ft] at h;exact h
   have e7:W.cell? ⟨w.heap.size,7,none⟩=some (.int .i64 S.va.k):=(aa H0).cell rfl;have e8:W.cell? ⟨w.heap.size,8,none⟩=some (.string S.va.t):=(aa H0).cell rfl;have e9:W.cell? ⟨w.heap.size,9,none⟩=some (.int .i64 S.va.n):=(aa H0).cell rfl;have e10:W.cell? ⟨w.heap.size,10,none⟩=some (.string S.va.nm):=(aa H0).cell rfl;have e11:W.cell? ⟨w.heap.size,11,none⟩=some (.slice S.va.xa S.va.len S.va.cap):=(aa H0).cell rfl;go_wp2_with fail;refine(aa gU _ (aa H0).bel).mono ?_;rintro e w1 ⟨⟨T1,rfl,hT,hL⟩,hb⟩;have ay:=(aa H0).lt;have lx:=ab ((aa H0).below hb);have hL:bd (w.heap.size+1+1+1) w1 T1:=fun X hX=>hL X fun i h1 h2=>hX i (by omega) h2
   have oX:=ab hT;obtain⟨W1,ep⟩:∃W1,W1=(((((w1).setCell ⟨w.heap.size+1+1,7,none⟩ (.int .i64 T1.k)).setCell ⟨w.heap.size+1+1,8,none⟩ (.string T1.t)).setCell ⟨w.heap.size+1+1,9,none⟩ (.int .i64 T1.n)).setCell ⟨w.heap.size+1+1,10,none⟩ (.string T1.nm)).setCell ⟨w.heap.size+1+1,11,none⟩ (.slice T1.xa T1.len T1.cap):=⟨_,rfl⟩;have H1:Hid (BS w W1 S {S.u0 with va:=T1}):=ab (by rw[ep];exact(aa lx).va hL)
   have ff:=fun k=>cT w1 (w.heap.size+1+1) k _ _ (aa lx).out
   have au:=(aa lx).lt;have bi:=ab ep;clear hT hL hb ay ep gU;have o7:(w1).cell? ⟨w.heap.size+1+1,7,none⟩=some (.int .i64 0):=aY (aa lx).out rfl;have o8:(w1).cell? ⟨w.heap.size+1+1,8,none⟩=some (.string ⟨#[]⟩):=aY (aa lx).out rfl;have o9:(w1).cell? ⟨w.heap.size+1+1,9,none⟩=some (.int .i64 0):=aY (aa lx).out rfl;have o10:(w1).cell? ⟨w.heap.size+1+1,10,none⟩=some (.string ⟨#[]⟩):=aY (aa lx).out rfl;have o11:(w1).cell? ⟨w.heap.size+1+1,11,none⟩=some (.slice none 0 0):=aY (aa lx).out rfl;unfold pv;go_upto_region 13 with fail
   rw[show (((((w1).setCell ⟨w.heap.size+1+1,7,none⟩ (.int .i64 T1.k)).setCell ⟨w.heap.size+1+1,8,none⟩ (.string T1.t)).setCell ⟨w.heap.size+1+1,9,none⟩ (.int .i64 T1.n)).setCell ⟨w.heap.size+1+1,10,none⟩ (.string T1.nm)).setCell ⟨w.heap.size+1+1,11,none⟩ (.slice T1.xa T1.len T1.cap)=W1 from (aa bi).symm];clear ff au bi lx e7 e8 e9 e10 e11 o7 o8 o9 o10 o11;clear e1;have e1:W1.cell? ⟨w.heap.size,1,none⟩=some (.int .i64 4):=by have h:=(aa H1).cell (i:=1) (x:=.int .i64 S.k) rfl;rw[aa ft] at h;exact h
   have e12:W1.cell? ⟨w.heap.size,12,none⟩=some (.int .i64 S.pa.k):=(aa H1).cell rfl;have e13:W1.cell? ⟨w.heap.size,13,none⟩=some (.string S.pa.t):=(aa H1).cell rfl;have e14:W1.cell? ⟨w.heap.size,14,none⟩=some (.int .i64 S.pa.n):=(aa H1).cell rfl;have e15:W1.cell? ⟨w.heap.size,15,none⟩=some (.string S.pa.nm):=(aa H1).cell rfl;have e16:W1.cell? ⟨w.heap.size,16,none⟩=some (.slice S.pa.xa S.pa.len S.pa.cap):=(aa H1).cell rfl;go_wp2_with fail;refine(aa mI _ (aa H1).bel).mono ?_;rintro e w2 ⟨⟨T2,rfl,hT,hL⟩,hb⟩;have ay:=(aa H1).lt;have lu:=ab ((aa H1).below hb);have hL:bd (w.heap.size+1+1+1) w2 T2:=fun X hX=>hL X fun i h1 h2=>hX i (by omega) h2
   have ky:=ab hT;obtain⟨W2,mP⟩:∃W2,W2=(((((w2).setCell ⟨w.heap.size+1+1,12,none⟩ (.int .i64 T2.k)).setCell ⟨w.heap.size+1+1,13,none⟩ (.string T2.t)).setCell ⟨w.heap.size+1+1,14,none⟩ (.int .i64 T2.n)).setCell ⟨w.heap.size+1+1,15,none⟩ (.string T2.nm)).setCell ⟨w.heap.size+1+1,16,none⟩ (.slice T2.xa T2.len T2.cap):=⟨_,rfl⟩;have H2:Hid (BS w W2 S {{S.u0 with va:=T1} with pa:=T2}):=ab (by rw[mP];exact(aa lu).pa hL)
   have ff:=fun k=>cT w2 (w.heap.size+1+1) k _ _ (aa lu).out
   have au:=(aa lu).lt;have gL:=ab mP;clear hT hL hb ay mP mI;have o12:(w2).cell? ⟨w.heap.size+1+1,12,none⟩=some (.int .i64 0):=aY (aa lu).out rfl;have o13:(w2).cell? ⟨w.heap.size+1+1,13,none⟩=some (.string ⟨#[]⟩):=aY (aa lu).out rfl;have o14:(w2).cell? ⟨w.heap.size+1+1,14,none⟩=some (.int .i64 0):=aY (aa lu).out rfl;have o15:(w2).cell? ⟨w.heap.size+1+1,15,none⟩=some (.string ⟨#[]⟩):=aY (aa lu).out rfl;have o16:(w2).cell? ⟨w.heap.size+1+1,16,none⟩=some (.slice none 0 0):=aY (aa lu).out rfl;unfold pv;go_upto_region 15 with fail
   rw[show (((((w2).setCell ⟨w.heap.size+1+1,12,none⟩ (.int .i64 T2.k)).setCell ⟨w.heap.size+1+1,13,none⟩ (.string T2.t)).setCell ⟨w.heap.size+1+1,14,none⟩ (.int .i64 T2.n)).setCell ⟨w.heap.size+1+1,15,none⟩ (.string T2.nm)).setCell ⟨w.heap.size+1+1,16,none⟩ (.slice T2.xa T2.len T2.cap)=W2 from (aa gL).symm];clear ff au gL lu e12 e13 e14 e15 e16 o12 o13 o14 o15 o16;clear e1;obtain⟨O,hO⟩:∃O,O=({{S.u0 with va:=T1} with pa:=T2}:SV).cells:=⟨_,rfl⟩
   have HOE:=ab hO;have fX:Hid (O.size=24):=ab (by rw[hO];rfl)
   have oZ:Hid (O.all (·.oneCell')=true):=ab (by rw[hO];exact SV.cells_one _)
   have HO:Hid ((W2).heap[w.heap.size+1+1]? =some (.cells O 30 (0,0))):=ab (by rw[hO];exact(aa H2).out)
   have HX:Hid ((W2).heap[w.heap.size+1]? =some (.cells bh.cells 30 (0,0))):=ab ((aa H2).res);have ef:Hid (rB w S (.returned (.agg O)) (W2.setRow (w.heap.size+1) O)):=ab (by rw[hO];exact(aa H2).fin (by
    unfold SV.can SV.bst SV.u0;rw[aa ft];simp only[vZ,aa oX,aa ky];rfl))
   clear hO;go_wp2_with (first
    | (refine gG rfl 30 _ rfl (w.heap.size+1+1) rfl 30 O (0,0) _ (by with_reducible exact aa HO) underlying30 rfl (cn.trans (by rw[aa fX])) ?_)
    | (refine aX rfl 30 _ _ rfl (w.heap.size+1) O rfl rfl 30 bh.cells (by with_reducible exact aa HX) (cn.trans (by rw[aa fX])) (by rw[aa fX];rfl) (aa oZ) ?_)
    | fail)
   (try simp only[Exit.inBlock,Exit.then])
   refine ck (dT rfl _ _ (w.heap.size+1) 30 O (0,0) _ rfl (cm _ _ _ _ _ _ (aa HX)) underlying30 rfl (cn.trans (by rw[aa fX]))) rfl ?_
   exact aa ef
 ·have cw:=aa ov
  have hq:dN [jo S.tg,S.pa.wrong,S.va.wrongX]=0:=by
   unfold SV.kndE at cw;rw[hk] at cw;exact cw
  have kM:S.tg.badX=0:=(fG (rz (cI hq).1).1).2;have nk:S.pa.bad=0:=(vO (cI (cI hq).2).1).2;have iC:S.va.badX=0:=(fG (cI (cI (cI hq).2).2).1).2;clear hq;have jX:=ab (aa jX kM);have gU:=ab (aa gU iC);have mI:=ab (aa mI nk);have ft:=ab hk;clear ov vJ cw hk kM iC nk
  as_aux_lemma=>
   have e1:W.cell? ⟨w.heap.size,1,none⟩=some (.int .i64 5):=by have h:=(aa H0).cell (i:=1) (x:=.int .i64 S.k) rfl;rw[aa ft] at h;exact h
   go_upto_region 8 with fail
   obtain⟨S0,aO⟩:∃S0:World→Prop,S0=fun w'=>w'.cell? ⟨w.heap.size,2,none⟩=some (.int .i64 S.tg.k)∧w'.cell? ⟨w.heap.size,3,none⟩=some (.string S.tg.t)∧w'.cell? ⟨w.heap.size,4,none⟩=some (.int .i64 S.tg.n)∧w'.cell? ⟨w.heap.size,5,none⟩=some (.string S.tg.nm)∧w'.cell? ⟨w.heap.size,6,none⟩=some (.slice S.tg.xa S.tg.len S.tg.cap)∧w'.cell? ⟨w.heap.size,7,none⟩=some (.int .i64 S.va.k)∧w'.cell? ⟨w.heap.size,8,none⟩=some (.string S.va.t)∧w'.cell? ⟨w.heap.size,9,none⟩=some (.int .i64 S.va.n)∧w'.cell? ⟨w.heap.size,10,none⟩=some (.string S.va.nm)∧w'.cell? ⟨w.heap.size,11,none⟩=some (.slice S.va.xa S.va.len S.va.cap):=⟨_,rfl⟩
   have aU:Hid (∀X U,BS w X S U→S0 X):=ab (fun X U h=>by rw[aO];exact⟨h.cell rfl,h.cell rfl,h.cell rfl,h.cell rfl,h.cell rfl,h.cell rfl,h.cell rfl,h.cell rfl,h.cell rfl,h.cell rfl⟩)
   have ao:=ab aO;have H1:=ab ((aa H0).below (aW _ _).drew);have hS:S0 W.drew:=aa aU _ _ (aa H1);clear aO;refine gZ 9 S0 ?_;intro F;refine aK F 0 ao hS ?_
   (try simp only[aH,aG])
   (try go_frame)
   refine aK F 1 ao hS ?_
   (try simp only[aH,aP,aG])
   (try go_frame)
   refine aK F 3 ao hS ?_
   (try simp only[aH,aP,aG])
   (try go_frame)
   refine aK F 4 ao hS ?_
   (try simp only[aH,aP,aG])
   (try go_frame)
   refine cg 2 (fun K2 ew=> ?_)
   go_simp;refine(aa jX _ (aa H1).bel).mono ?_;rintro e w2 ⟨⟨T2,rfl,hT,hL⟩,hb⟩;have ay:=(aa H1).lt;have H2:=ab ((aa H1).below hb);have lQ:Hid (bd (w.heap.size+1+1+1) w2 T2):=ab (fun X hX=>hL X fun i h1 h2=>hX i (by omega) h2)
   have ky:=ab hT;have HBB2:=ab hb;clear hT hL hb ay jX;unfold pv;clear hS;have hS:S0 w2:=aa aU _ _ (aa H2);refine ew _ _ hS ?_
   (try simp only[aH,aP,aG])
   (try go_frame)
   refine aK F 6 ao hS ?_
   (try simp only[aH,aP,aG])
   (try go_frame)
   refine cg 5 (fun K3 cO=> ?_)
   go_simp;refine(aa gU _ (aa H2).bel).mono ?_;rintro e w3 ⟨⟨T3,rfl,hT,hL⟩,hb⟩;have ay:=(aa H2).lt;have H3:=ab ((aa H2).below hb);have kB:Hid (bd (w.heap.size+1+1+1) w3 T3):=ab (fun X hX=>hL X fun i h1 h2=>hX i (by omega) h2)
   have tU:=ab hT;have wI:=ab hb;clear hT hL hb ay gU;unfold pv;clear hS;have hS:S0 w3:=aa aU _ _ (aa H3);refine cO _ _ hS ?_
   (try simp only[aH,aP,aG])
   (try go_frame)
   have lQ:Hid (bd (w.heap.size+1+1+1) w3 T2):=ab (fun X hX=>aa lQ X fun i h1 h2=>(hX i h1 (i6 h2 (aa wI).size)).trans ((aa wI).block i h2))
   obtain⟨W4,nr⟩:∃W4,W4=(((((w3).setCell ⟨w.heap.size+1+1,2,none⟩ (.int .i64 T2.k)).setCell ⟨w.heap.size+1+1,3,none⟩ (.string T2.t)).setCell ⟨w.heap.size+1+1,4,none⟩ (.int .i64 T2.n)).setCell ⟨w.heap.size+1+1,5,none⟩ (.string T2.nm)).setCell ⟨w.heap.size+1+1,6,none⟩ (.slice T2.xa T2.len T2.cap):=⟨_,rfl⟩;have h4:BS w W4 S {S.u0 with tg:=T2}:=by rw[nr];exact(aa H3).tg (aa lQ)
   have hL4:bd (w.heap.size+1+1+1) W4 T3:=fun X hX=>by
    have ho:∀i,i≠w.heap.size+1+1→W4.heap[i]? =w3.heap[i]? :=fun i hi=>by rw[nr];exact lT w3 (w.heap.size+1+1) 2 i T2 hi
    have hz:W4.heap.size=w3.heap.size:=by rw[nr];exact mS w3 (w.heap.size+1+1) 2 T2
    exact aa kB X fun i h1 h2=>(hX i h1 (by rw[hz];exact h2)).trans (ho i (by omega))
   have H4:=ab h4;obtain⟨W5,qS⟩:∃W5,W5=(((((W4).setCell ⟨w.heap.size+1+1,7,none⟩ (.int .i64 T3.k)).setCell ⟨w.heap.size+1+1,8,none⟩ (.string T3.t)).setCell ⟨w.heap.size+1+1,9,none⟩ (.int .i64 T3.n)).setCell ⟨w.heap.size+1+1,10,none⟩ (.string T3.nm)).setCell ⟨w.heap.size+1+1,11,none⟩ (.slice T3.xa T3.len T3.cap):=⟨_,rfl⟩;have H5:Hid (BS w W5 S {{S.u0 with tg:=T2} with va:=T3}):=ab (by rw[qS];exact h4.va hL4)
   have ff:=fun k=>cT w3 (w.heap.size+1+1) k _ _ (aa H3).out
   have fg:=fun k=>cT W4 (w.heap.size+1+1) k _ _ h4.out
   have au:=(aa H3).lt;have hlu:=h4.lt;have vD:=ab nr;have vC:=ab qS;clear h4 hL4 nr qS;have o2:(w3).cell? ⟨w.heap.size+1+1,2,none⟩=some (.int .i64 0):=aY (aa H3).out rfl;have o3:(w3).cell? ⟨w.heap.size+1+1,3,none⟩=some (.string ⟨#[]⟩):=aY (aa H3).out rfl;have o4:(w3).cell? ⟨w.heap.size+1+1,4,none⟩=some (.int .i64 0):=aY (aa H3).out rfl;have o5:(w3).cell? ⟨w.heap.size+1+1,5,none⟩=some (.string ⟨#[]⟩):=aY (aa H3).out rfl;have o6:(w3).cell? ⟨w.heap.size+1+1,6,none⟩=some (.slice none 0 0):=aY (aa H3).out rfl;refine cg 7 (fun K4 bH=> ?_)
   go_simp;rw[show (((((w3).setCell ⟨w.heap.size+1+1,2,none⟩ (.int .i64 T2.k)).setCell ⟨w.heap.size+1+1,3,none⟩ (.string T2.t)).setCell ⟨w.heap.size+1+1,4,none⟩ (.int .i64 T2.n)).setCell ⟨w.heap.size+1+1,5,none⟩ (.string T2.nm)).setCell ⟨w.heap.size+1+1,6,none⟩ (.slice T2.xa T2.len T2.cap)=W4 from (aa vD).symm];clear hS ff au o2 o3 o4 o5 o6;have o7:(W4).cell? ⟨w.heap.size+1+1,7,none⟩=some (.int .i64 0):=aY (aa H4).out rfl;have o8:(W4).cell? ⟨w.heap.size+1+1,8,none⟩=some (.string ⟨#[]⟩):=aY (aa H4).out rfl;have o9:(W4).cell? ⟨w.heap.size+1+1,9,none⟩=some (.int .i64 0):=aY (aa H4).out rfl;have o10:(W4).cell? ⟨w.heap.size+1+1,10,none⟩=some (.string ⟨#[]⟩):=aY (aa H4).out rfl;have o11:(W4).cell? ⟨w.heap.size+1+1,11,none⟩=some (.slice none 0 0):=aY (aa H4).out rfl;have hS:S0 W4:=aa aU _ _ (aa H4);refine bH _ _ hS ?_
   (try simp only[aH,aP,aG])
   (try go_frame)
   refine aK F 8 ao hS ?_
   (try simp only[aH,aP,aG])
   (try go_frame)
   refine g5 (by kernel_rfl) rfl (by kernel_rfl) (fun K5 dP=> ?_)
   go_simp;rw[show (((((W4).setCell ⟨w.heap.size+1+1,7,none⟩ (.int .i64 T3.k)).setCell ⟨w.heap.size+1+1,8,none⟩ (.string T3.t)).setCell ⟨w.heap.size+1+1,9,none⟩ (.int .i64 T3.n)).setCell ⟨w.heap.size+1+1,10,none⟩ (.string T3.nm)).setCell ⟨w.heap.size+1+1,11,none⟩ (.slice T3.xa T3.len T3.cap)=W5 from (aa vC).symm];refine dP _ _ ?_
   (try simp only[aH,aP,aG])
   (try go_frame)
   clear ew cO bH dP K2 K3 K4 K5 F hS ao aU S0 fg hlu vD vC H1 H2 H3 H4 lQ kB HBB2 wI o7 o8 o9 o10 o11;clear e1;have e1:W5.cell? ⟨w.heap.size,1,none⟩=some (.int .i64 5):=by have h:=(aa H5).cell (i:=1) (x:=.int .i64 S.k) rfl;rw[aa ft] at h;exact h
   have e12:W5.cell? ⟨w.heap.size,12,none⟩=some (.int .i64 S.pa.k):=(aa H5).cell rfl;have e13:W5.cell? ⟨w.heap.size,13,none⟩=some (.string S.pa.t):=(aa H5).cell rfl;have e14:W5.cell? ⟨w.heap.size,14,none⟩=some (.int .i64 S.pa.n):=(aa H5).cell rfl;have e15:W5.cell? ⟨w.heap.size,15,none⟩=some (.string S.pa.nm):=(aa H5).cell rfl;have e16:W5.cell? ⟨w.heap.size,16,none⟩=some (.slice S.pa.xa S.pa.len S.pa.cap):=(aa H5).cell rfl;go_wp2_with fail;refine(aa mI _ (aa H5).bel).mono ?_;rintro e w6 ⟨⟨T6,rfl,hT,hL⟩,hb⟩;have ay:=(aa H5).lt;have uh:=ab ((aa H5).below hb);have hL:bd (w.heap.size+1+1+1) w6 T6:=fun X hX=>hL X fun i h1 h2=>hX i (by omega) h2
   have oW:=ab hT;obtain⟨W6,hW6⟩:∃W6,W6=(((((w6).setCell ⟨w.heap.size+1+1,12,none⟩ (.int .i64 T6.k)).setCell ⟨w.heap.size+1+1,13,none⟩ (.string T6.t)).setCell ⟨w.heap.size+1+1,14,none⟩ (.int .i64 T6.n)).setCell ⟨w.heap.size+1+1,15,none⟩ (.string T6.nm)).setCell ⟨w.heap.size+1+1,16,none⟩ (.slice T6.xa T6.len T6.cap):=⟨_,rfl⟩;have H6:Hid (BS w W6 S {{{S.u0 with tg:=T2} with va:=T3} with pa:=T6}):=ab (by rw[hW6];exact(aa uh).pa hL)
   have ff:=fun k=>cT w6 (w.heap.size+1+1) k _ _ (aa uh).out
   have au:=(aa uh).lt;have HW6:=ab hW6;clear hT hL hb ay hW6 mI;have o12:(w6).cell? ⟨w.heap.size+1+1,12,none⟩=some (.int .i64 0):=aY (aa uh).out rfl;have o13:(w6).cell? ⟨w.heap.size+1+1,13,none⟩=some (.string ⟨#[]⟩):=aY (aa uh).out rfl;have o14:(w6).cell? ⟨w.heap.size+1+1,14,none⟩=some (.int .i64 0):=aY (aa uh).out rfl;have o15:(w6).cell? ⟨w.heap.size+1+1,15,none⟩=some (.string ⟨#[]⟩):=aY (aa uh).out rfl;have o16:(w6).cell? ⟨w.heap.size+1+1,16,none⟩=some (.slice none 0 0):=aY (aa uh).out rfl;unfold pv;go_upto_region 15 with fail
   rw[show (((((w6).setCell ⟨w.heap.size+1+1,12,none⟩ (.int .i64 T6.k)).setCell ⟨w.heap.size+1+1,13,none⟩ (.string T6.t)).setCell ⟨w.heap.size+1+1,14,none⟩ (.int .i64 T6.n)).setCell ⟨w.heap.size+1+1,15,none⟩ (.string T6.nm)).setCell ⟨w.heap.size+1+1,16,none⟩ (.slice T6.xa T6.len T6.cap)=W6 from (aa HW6).symm];clear ff au HW6 uh e12 e13 e14 e15 e16 o12 o13 o14 o15 o16;clear e1;obtain⟨O,hO⟩:∃O,O=({{{S.u0 with tg:=T2} with va:=T3} with pa:=T6}:SV).cells:=⟨_,rfl⟩
   have HOE:=ab hO;have fX:Hid (O.size=24):=ab (by rw[hO];rfl)
   have oZ:Hid (O.all (·.oneCell')=true):=ab (by rw[hO];exact SV.cells_one _)
   have HO:Hid ((W6).heap[w.heap.size+1+1]? =some (.cells O 30 (0,0))):=ab (by rw[hO];exact(aa H6).out)
   have HX:Hid ((W6).heap[w.heap.size+1]? =some (.cells bh.cells 30 (0,0))):=ab ((aa H6).res);have ef:Hid (rB w S (.returned (.agg O)) (W6.setRow (w.heap.size+1) O)):=ab (by rw[hO];exact(aa H6).fin (by
    unfold SV.can SV.bst SV.u0;rw[aa ft];simp only[aa ky,aa tU,aa oW];rfl))
   clear hO;go_wp2_with (first
    | (refine gG rfl 30 _ rfl (w.heap.size+1+1) rfl 30 O (0,0) _ (by with_reducible exact aa HO) underlying30 rfl (cn.trans (by rw[aa fX])) ?_)
    | (refine aX rfl 30 _ _ rfl (w.heap.size+1) O rfl rfl 30 bh.cells (by with_reducible exact aa HX) (cn.trans (by rw[aa fX])) (by rw[aa fX];rfl) (aa oZ) ?_)
    | fail)
   (try simp only[Exit.inBlock,Exit.then])
   refine ck (dT rfl _ _ (w.heap.size+1) 30 O (0,0) _ rfl (cm _ _ _ _ _ _ (aa HX)) underlying30 rfl (cn.trans (by rw[aa fX]))) rfl ?_
   exact aa ef
 ·have cw:=aa ov
  have hq:dN [cV [S.nm],S.pa.wrong]=0:=by
   unfold SV.kndE at cw;rw[hk] at cw;exact cw
  have nk:S.pa.bad=0:=(vO (cI (cI hq).2).1).2;clear hq;have mI:=ab (aa mI nk);have ft:=ab hk;clear ov vJ cw hk nk jX gU
  as_aux_lemma=>
   have e1:W.cell? ⟨w.heap.size,1,none⟩=some (.int .i64 6):=by have h:=(aa H0).cell (i:=1) (x:=.int .i64 S.k) rfl;rw[aa ft] at h;exact h
   have e17:W.cell? ⟨w.heap.size,17,none⟩=some (.string S.nm):=(aa H0).cell rfl;have ff:=fun k=>cT W (w.heap.size+1+1) k _ _ (aa H0).out
   have au:=(aa H0).lt;obtain⟨W1,ep⟩:∃W1,W1=W.setCell ⟨w.heap.size+1+1,17,none⟩ (.string S.nm):=⟨_,rfl⟩;have H1:Hid (BS w W1 S {S.u0 with nm:=S.nm}):=ab (by rw[ep];exact(aa H0).nm)
   have bi:=ab ep;clear ep;have o17:W.cell? ⟨w.heap.size+1+1,17,none⟩=some (.string ⟨#[]⟩):=aY (aa H0).out rfl;go_upto_region 13 with fail
   rw[show W.setCell ⟨w.heap.size+1+1,17,none⟩ (.string S.nm)=W1 from (aa bi).symm];clear ff au bi e17 o17;clear e1;have e1:W1.cell? ⟨w.heap.size,1,none⟩=some (.int .i64 6):=by have h:=(aa H1).cell (i:=1) (x:=.int .i64 S.k) rfl;rw[aa ft] at h;exact h
   have e12:W1.cell? ⟨w.heap.size,12,none⟩=some (.int .i64 S.pa.k):=(aa H1).cell rfl;have e13:W1.cell? ⟨w.heap.size,13,none⟩=some (.string S.pa.t):=(aa H1).cell rfl;have e14:W1.cell? ⟨w.heap.size,14,none⟩=some (.int .i64 S.pa.n):=(aa H1).cell rfl;have e15:W1.cell? ⟨w.heap.size,15,none⟩=some (.string S.pa.nm):=(aa H1).cell rfl;have e16:W1.cell? ⟨w.heap.size,16,none⟩=some (.slice S.pa.xa S.pa.len S.pa.cap):=(aa H1).cell rfl;go_wp2_with fail;refine(aa mI _ (aa H1).bel).mono ?_;rintro e w2 ⟨⟨T2,rfl,hT,hL⟩,hb⟩;have ay:=(aa H1).lt;have lu:=ab ((aa H1).below hb);have hL:bd (w.heap.size+1+1+1) w2 T2:=fun X hX=>hL X fun i h1 h2=>hX i (by omega) h2
   have ky:=ab hT;obtain⟨W2,mP⟩:∃W2,W2=(((((w2).setCell ⟨w.heap.size+1+1,12,none⟩ (.int .i64 T2.k)).setCell ⟨w.heap.size+1+1,13,none⟩ (.string T2.t)).setCell ⟨w.heap.size+1+1,14,none⟩ (.int .i64 T2.n)).setCell ⟨w.heap.size+1+1,15,none⟩ (.string T2.nm)).setCell ⟨w.heap.size+1+1,16,none⟩ (.slice T2.xa T2.len T2.cap):=⟨_,rfl⟩;have H2:Hid (BS w W2 S {{S.u0 with nm:=S.nm} with pa:=T2}):=ab (by rw[mP];exact(aa lu).pa hL)
   have ff:=fun k=>cT w2 (w.heap.size+1+1) k _ _ (aa lu).out
   have au:=(aa lu).lt;have gL:=ab mP;clear hT hL hb ay mP mI;have o12:(w2).cell? ⟨w.heap.size+1+1,12,none⟩=some (.int .i64 0):=aY (aa lu).out rfl;have o13:(w2).cell? ⟨w.heap.size+1+1,13,none⟩=some (.string ⟨#[]⟩):=aY (aa lu).out rfl;have o14:(w2).cell? ⟨w.heap.size+1+1,14,none⟩=some (.int .i64 0):=aY (aa lu).out rfl;have o15:(w2).cell? ⟨w.heap.size+1+1,15,none⟩=some (.string ⟨#[]⟩):=aY (aa lu).out rfl;have o16:(w2).cell? ⟨w.heap.size+1+1,16,none⟩=some (.slice none 0 0):=aY (aa lu).out rfl;unfold pv;go_upto_region 15 with fail
   rw[show (((((w2).setCell ⟨w.heap.size+1+1,12,none⟩ (.int .i64 T2.k)).setCell ⟨w.heap.size+1+1,13,none⟩ (.string T2.t)).setCell ⟨w.heap.size+1+1,14,none⟩ (.int .i64 T2.n)).setCell ⟨w.heap.size+1+1,15,none⟩ (.string T2.nm)).setCell ⟨w.heap.size+1+1,16,none⟩ (.slice T2.xa T2.len T2.cap)=W2 from (aa gL).symm];clear ff au gL lu e12 e13 e14 e15 e16 o12 o13 o14 o15 o16;clear e1;obtain⟨O,hO⟩:∃O,O=({{S.u0 with nm:=S.nm} with pa:=T2}:SV).cells:=⟨_,rfl⟩
   have HOE:=ab hO;have fX:Hid (O.size=24):=ab (by rw[hO];rfl)
   have oZ:Hid (O.all (·.oneCell')=true):=ab (by rw[hO];exact SV.cells_one _)
   have HO:Hid ((W2).heap[w.heap.size+1+1]? =some (.cells O 30 (0,0))):=ab (by rw[hO];exact(aa H2).out)
   have HX:Hid ((W2).heap[w.heap.size+1]? =some (.cells bh.cells 30 (0,0))):=ab ((aa H2).res);have ef:Hid (rB w S (.returned (.agg O)) (W2.setRow (w.heap.size+1) O)):=ab (by rw[hO];exact(aa H2).fin (by
    unfold SV.can SV.bst SV.u0;rw[aa ft];simp only[vZ,aa ky];rfl))
   clear hO;go_wp2_with (first
    | (refine gG rfl 30 _ rfl (w.heap.size+1+1) rfl 30 O (0,0) _ (by with_reducible exact aa HO) underlying30 rfl (cn.trans (by rw[aa fX])) ?_)
    | (refine aX rfl 30 _ _ rfl (w.heap.size+1) O rfl rfl 30 bh.cells (by with_reducible exact aa HX) (cn.trans (by rw[aa fX])) (by rw[aa fX];rfl) (aa oZ) ?_)
    | fail)
   (try simp only[Exit.inBlock,Exit.then])
   refine ck (dT rfl _ _ (w.heap.size+1) 30 O (0,0) _ rfl (cm _ _ _ _ _ _ (aa HX)) underlying30 rfl (cn.trans (by rw[aa fX]))) rfl ?_
   exact aa ef
 ·have cw:=aa ov
  have ft:=ab hk;clear ov vJ cw hk jX gU mI
  as_aux_lemma=>
   have e1:W.cell? ⟨w.heap.size,1,none⟩=some (.int .i64 7):=by have h:=(aa H0).cell (i:=1) (x:=.int .i64 S.k) rfl;rw[aa ft] at h;exact h
   go_upto_region 12 with fail
   obtain⟨S0,aO⟩:∃S0:World→Prop,S0=fun w'=>w'.cell? ⟨w.heap.size,17,none⟩=some (.string S.nm)∧w'.cell? ⟨w.heap.size,18,none⟩=some (.string S.en)∧w'.cell? ⟨w.heap.size,19,none⟩=some (.slice S.ps.xa S.ps.l.length S.ps.cap)∧w'.cell? ⟨w.heap.size,20,none⟩=some (.slice S.ls.xa S.ls.l.length S.ls.cap):=⟨_,rfl⟩
   have aU:Hid (∀X U,BS w X S U→S0 X):=ab (fun X U h=>by rw[aO];exact⟨h.cell rfl,h.cell rfl,h.cell rfl,h.cell rfl⟩)
   have ao:=ab aO;have H1:=ab ((aa H0).below (aW _ _).drew);have hS:S0 W.drew:=aa aU _ _ (aa H1);clear aO;refine gZ 15 S0 ?_;intro F;refine aK F 0 ao hS ?_
   (try simp only[aH,aG])
   (try go_frame)
   refine aK F 1 ao hS ?_
   (try simp only[aH,aP,aG])
   (try go_frame)
   refine aK F 2 ao hS ?_
   (try simp only[aH,aP,aG])
   (try go_frame)
   refine aK F 3 ao hS ?_
   (try simp only[aH,aP,aG])
   (try go_frame)
   refine aK F 4 ao hS ?_
   (try simp only[aH,aP,aG])
   (try go_frame)
   refine aK F 5 ao hS ?_
   (try simp only[aH,aP,aG])
   (try go_frame)
   refine aK F 6 ao hS ?_
   (try simp only[aH,aP,aG])
   (try go_frame)
   refine aK F 7 ao hS ?_
   (try simp only[aH,aP,aG])
   (try go_frame)
   refine aK F 8 ao hS ?_
   (try simp only[aH,aP,aG])
   (try go_frame)
   obtain⟨W2,mP⟩:∃W2,W2=(W.setCell ⟨w.heap.size+1+1,17,none⟩ (.string S.nm)).drew:=⟨_,rfl⟩;have H2:Hid (BS w W2 S {S.u0 with nm:=S.nm}):=ab (by rw[mP];exact((aa H0).nm).below (aW _ _).drew)
   have ff:=fun k=>cT (W.drew) (w.heap.size+1+1) k _ _ (aa H1).out
   have au:=(aa H1).lt;have gL:=ab mP;clear mP;have o17:(W.drew).cell? ⟨w.heap.size+1+1,17,none⟩=some (.string ⟨#[]⟩):=aY (aa H1).out rfl;refine cg 9 (fun K2 ew=> ?_)
   go_simp;rw[show (W.setCell ⟨w.heap.size+1+1,17,none⟩ (.string S.nm)).drew=W2 from (aa gL).symm];clear ff au gL H1 o17;clear hS;have hS:S0 W2:=aa aU _ _ (aa H2);refine ew _ _ hS ?_
   (try simp only[aH,aP,aG])
   (try go_frame)
   refine aK F 10 ao hS ?_
   (try simp only[aH,aP,aG])
   (try go_frame)
   obtain⟨W3,hW3⟩:∃W3,W3=(W2).setCell ⟨w.heap.size+1+1,18,none⟩ (.string S.en):=⟨_,rfl⟩;have H3:Hid (BS w W3 S {{S.u0 with nm:=S.nm} with en:=S.en}):=ab (by rw[hW3];exact(aa H2).en)
   have ff:=fun k=>cT (W2) (w.heap.size+1+1) k _ _ (aa H2).out
   have au:=(aa H2).lt;have dZ:=ab hW3;clear hW3;have o18:(W2).cell? ⟨w.heap.size+1+1,18,none⟩=some (.string ⟨#[]⟩):=aY (aa H2).out rfl;refine cg 11 (fun K3 cO=> ?_)
   go_simp;rw[show (W2).setCell ⟨w.heap.size+1+1,18,none⟩ (.string S.en)=W3 from (aa dZ).symm];clear ff au dZ H2 o18;clear hS;have hS:S0 W3:=aa aU _ _ (aa H3);refine cO _ _ hS ?_
   (try simp only[aH,aP,aG])
   (try go_frame)
   refine aK F 12 ao hS ?_
   (try simp only[aH,aP,aG])
   (try go_frame)
   obtain⟨W4,nr⟩:∃W4,W4=(W3).setCell ⟨w.heap.size+1+1,19,none⟩ (.slice S.ps.xa S.ps.l.length S.ps.cap):=⟨_,rfl⟩;have H4:Hid (BS w W4 S {{{S.u0 with nm:=S.nm} with en:=S.en} with ps:=S.ps}):=ab (by rw[nr];exact(aa H3).ps)
   have ff:=fun k=>cT (W3) (w.heap.size+1+1) k _ _ (aa H3).out
   have au:=(aa H3).lt;have vD:=ab nr;clear nr;have o19:(W3).cell? ⟨w.heap.size+1+1,19,none⟩=some (.slice none 0 0):=aY (aa H3).out rfl;refine cg 13 (fun K4 bH=> ?_)
   go_simp;rw[show (W3).setCell ⟨w.heap.size+1+1,19,none⟩ (.slice S.ps.xa S.ps.l.length S.ps.cap)=W4 from (aa vD).symm];clear ff au vD H3 o19;clear hS;have hS:S0 W4:=aa aU _ _ (aa H4);refine bH _ _ hS ?_
   (try simp only[aH,aP,aG])
   (try go_frame)
   refine aK F 14 ao hS ?_
   (try simp only[aH,aP,aG])
   (try go_frame)
   obtain⟨W5,qS⟩:∃W5,W5=(W4).setCell ⟨w.heap.size+1+1,20,none⟩ (.slice S.ls.xa S.ls.l.length S.ls.cap):=⟨_,rfl⟩;have H5:Hid (BS w W5 S {{{{S.u0 with nm:=S.nm} with en:=S.en} with ps:=S.ps} with ls:=S.ls}):=ab (by rw[qS];exact(aa H4).ls)
   have ff:=fun k=>cT (W4) (w.heap.size+1+1) k _ _ (aa H4).out
   have au:=(aa H4).lt;have vC:=ab qS;clear qS;have o20:(W4).cell? ⟨w.heap.size+1+1,20,none⟩=some (.slice none 0 0):=aY (aa H4).out rfl;refine g5 (by kernel_rfl) rfl (by kernel_rfl) (fun K5 dP=> ?_)
   go_simp;rw[show (W4).setCell ⟨w.heap.size+1+1,20,none⟩ (.slice S.ls.xa S.ls.l.length S.ls.cap)=W5 from (aa vC).symm];clear ff au vC H4 o20;refine dP _ _ ?_
   (try simp only[aH,aP,aG])
   (try go_frame)
   clear ew cO bH dP K2 K3 K4 K5 F hS ao aU S0;clear e1;have e1:W5.cell? ⟨w.heap.size,1,none⟩=some (.int .i64 7):=by have h:=(aa H5).cell (i:=1) (x:=.int .i64 S.k) rfl;rw[aa ft] at h;exact h
   obtain⟨O,hO⟩:∃O,O=({{{{S.u0 with nm:=S.nm} with en:=S.en} with ps:=S.ps} with ls:=S.ls}:SV).cells:=⟨_,rfl⟩
   have HOE:=ab hO;have fX:Hid (O.size=24):=ab (by rw[hO];rfl)
   have oZ:Hid (O.all (·.oneCell')=true):=ab (by rw[hO];exact SV.cells_one _)
   have HO:Hid ((W5).heap[w.heap.size+1+1]? =some (.cells O 30 (0,0))):=ab (by rw[hO];exact(aa H5).out)
   have HX:Hid ((W5).heap[w.heap.size+1]? =some (.cells bh.cells 30 (0,0))):=ab ((aa H5).res);have ef:Hid (rB w S (.returned (.agg O)) (W5.setRow (w.heap.size+1) O)):=ab (by rw[hO];exact(aa H5).fin (by
    unfold SV.can SV.bst SV.u0;rw[aa ft];simp only[vZ];rfl))
   clear hO;go_wp2_with (first
    | (refine gG rfl 30 _ rfl (w.heap.size+1+1) rfl 30 O (0,0) _ (by with_reducible exact aa HO) underlying30 rfl (cn.trans (by rw[aa fX])) ?_)
    | (refine aX rfl 30 _ _ rfl (w.heap.size+1) O rfl rfl 30 bh.cells (by with_reducible exact aa HX) (cn.trans (by rw[aa fX])) (by rw[aa fX];rfl) (aa oZ) ?_)
    | fail)
   (try simp only[Exit.inBlock,Exit.then])
   refine ck (dT rfl _ _ (w.heap.size+1) 30 O (0,0) _ rfl (cm _ _ _ _ _ _ (aa HX)) underlying30 rfl (cn.trans (by rw[aa fX]))) rfl ?_
   exact aa ef
open Go.RowKit
theorem xm {w a b:World} (h:Below w.heap.size w a) (k:Below a.heap.size a b):Below w.heap.size w b:=h.trans (k.mono h.size)
theorem K8:∀A B:PT,∀w:World,A.In w→B.In w→A.can=B.can→Calls prog 26 #[pv A,pv B] w fun e w'=>e=.returned (.bool true)∧Below w.heap.size w w':=PT.ind fun A ih B w hA hB h=>by
 obtain⟨e1,e2,e3,e4,e5,e6⟩:=DU h;have HA:=ab hA;have HB:=ab hB;have HL:=ab e5;have IH:=ab (fun j hj=>ih j hj (B.kid j))
 have H6:=ab e6;have jr:=hA.max;unfold maxLen at jr;unfold pv;rw[e1,e2,e3,e4,e5];have aZ:Below w.heap.size w ((w.alloc (.cells #[.int .i64 A.k,.string A.t,.int .i64 A.n,.string A.nm,.slice A.xa A.len A.cap] 27)).alloc (.cells #[.int .i64 A.k,.string A.t,.int .i64 A.n,.string A.nm,.slice B.xa A.len B.cap] 27)):=(ba _).alloc (by simp) _
 have ga:((w.alloc (.cells #[.int .i64 A.k,.string A.t,.int .i64 A.n,.string A.nm,.slice A.xa A.len A.cap] 27)).alloc (.cells #[.int .i64 A.k,.string A.t,.int .i64 A.n,.string A.nm,.slice B.xa A.len B.cap] 27)).heap[w.heap.size]? =some (.cells #[.int .i64 A.k,.string A.t,.int .i64 A.n,.string A.nm,.slice A.xa A.len A.cap] 27 (0,0)):=bL (by simp) (aw rfl)
 have gb:((w.alloc (.cells #[.int .i64 A.k,.string A.t,.int .i64 A.n,.string A.nm,.slice A.xa A.len A.cap] 27)).alloc (.cells #[.int .i64 A.k,.string A.t,.int .i64 A.n,.string A.nm,.slice B.xa A.len B.cap] 27)).heap[w.heap.size+1]? =some (.cells #[.int .i64 A.k,.string A.t,.int .i64 A.n,.string A.nm,.slice B.xa A.len B.cap] 27 (0,0)):=aw (by simp)
 have H0:=ab (And.intro aZ (And.intro ga gb));clear aZ ga gb hA hB h e1 e2 e3 e4 e5 e6 ih;go_enter func26,ntmps26;go_wp2_with fail;generalize ((w.alloc (.cells #[.int .i64 A.k,.string A.t,.int .i64 A.n,.string A.nm,.slice A.xa A.len A.cap] 27)).alloc (.cells #[.int .i64 A.k,.string A.t,.int .i64 A.n,.string A.nm,.slice B.xa A.len B.cap] 27))=W1 at *;go_loopw [44] (fun x wr=>∃k:Nat,k≤A.len∧x=.int .i64 (k:Int)∧Hid (Below W1.heap.size W1 wr)) (fun x _=>A.len - (intOf x).toNat)
 case atStart=>exact⟨0,cU _,rfl,aW _ _⟩
 case round=>
  obtain⟨k,hk,rfl,mq⟩:=hrel;rcases cX k A.len with au | jc
  ·have g1:(k:Int) < (A.len:Int):=by omega
   have HBw:=ab (xm (aa H0).1 (aa mq));have wv:k < B.len:=by rw[aa HL];exact au
   have lm:=kid_at (aa HA) au;have hib:=kid_at (aa HB) wv;rw[aa HL] at hib;have bA:=(aa HA).cells au;have hKB:=(aa HB).cells wv;unfold PT.kv at bA hKB;have HC:=ab (fun W (hb:Below w.heap.size w W)=>aa IH k au W (PT.In.later hb ((aa HA).kids au)) (PT.In.later hb ((aa HB).kids wv)) (aa H6 k au))
   generalize A.kid k=P at *;generalize B.kid k=Q at *;unfold pv at HC;have y:=(ej (am (aa H0).2.1 (aa mq))).2.2.2.2;have z:=(ej (am (aa H0).2.2 (aa mq))).2.2.2.2;have HK:Hid (∀w',Below wr.heap.size wr w'→(w'.cell? ⟨w.heap.size,4,none⟩=some (.slice A.xa A.len A.cap)∧w'.cell? ⟨w.heap.size+1,4,none⟩=some (.slice B.xa A.len B.cap)∧w'.cell? ⟨A.b,A.o+k * 5,none⟩=some (.int .i64 P.k)∧w'.cell? ⟨A.b,A.o+k * 5+1,none⟩=some (.string P.t)∧w'.cell? ⟨A.b,A.o+k * 5+2,none⟩=some (.int .i64 P.n)∧w'.cell? ⟨A.b,A.o+k * 5+3,none⟩=some (.string P.nm)∧w'.cell? ⟨A.b,A.o+k * 5+4,none⟩=some (.slice P.xa P.len P.cap)∧w'.cell? ⟨B.b,B.o+k * 5,none⟩=some (.int .i64 Q.k)∧w'.cell? ⟨B.b,B.o+k * 5+1,none⟩=some (.string Q.t)∧w'.cell? ⟨B.b,B.o+k * 5+2,none⟩=some (.int .i64 Q.n)∧w'.cell? ⟨B.b,B.o+k * 5+3,none⟩=some (.string Q.nm)∧w'.cell? ⟨B.b,B.o+k * 5+4,none⟩=some (.slice Q.xa Q.len Q.cap))):=ab (fun w' hB=>by
    have hw:=ap (aa HBw) hB;obtain⟨a0,a1,a2,a3,a4⟩:=bA;obtain⟨b0,b1,b2,b3,b4⟩:=hKB;exact⟨av hB y,av hB z,av hw a0,av hw a1,av hw a2,av hw a3,av hw a4,av hw b0,av hw b1,av hw b2,av hw b3,av hw b4⟩)
   obtain⟨u1,u2,a0,a1,a2,a3,a4,b0,b1,b2,b3,b4⟩:=aa HK wr (aW _ _);clear bA hKB y z;go_wp2_with fail;have hA:Below wr.heap.size wr wr.drew:=(aW _ _).drew;go_region_held3 (fun w'=>w'.cell? ⟨w.heap.size,4,none⟩=some (.slice A.xa A.len A.cap)∧w'.cell? ⟨w.heap.size+1,4,none⟩=some (.slice B.xa A.len B.cap)∧w'.cell? ⟨A.b,A.o+k * 5,none⟩=some (.int .i64 P.k)∧w'.cell? ⟨A.b,A.o+k * 5+1,none⟩=some (.string P.t)∧w'.cell? ⟨A.b,A.o+k * 5+2,none⟩=some (.int .i64 P.n)∧w'.cell? ⟨A.b,A.o+k * 5+3,none⟩=some (.string P.nm)∧w'.cell? ⟨A.b,A.o+k * 5+4,none⟩=some (.slice P.xa P.len P.cap)∧w'.cell? ⟨B.b,B.o+k * 5,none⟩=some (.int .i64 Q.k)∧w'.cell? ⟨B.b,B.o+k * 5+1,none⟩=some (.string Q.t)∧w'.cell? ⟨B.b,B.o+k * 5+2,none⟩=some (.int .i64 Q.n)∧w'.cell? ⟨B.b,B.o+k * 5+3,none⟩=some (.string Q.nm)∧w'.cell? ⟨B.b,B.o+k * 5+4,none⟩=some (.slice Q.xa Q.len Q.cap))
    ((refine aa HK _ ?_;with_reducible exact hA))
    ((go_at_call 26;(with_reducible refine(aa HC _ (ap (aa HBw) hA)).mono ?_);rintro e w4 ⟨rfl,hb4⟩;have hA:=ap hA hb4;clear hb4))
   all_goals have HZ:=ab (xm (aa mq) hA)
   all_goals clear a0 a1 a2 a3 a4 b0 b1 b2 b3 b4 u1 u2 HK HC lm hib
   all_goals go_wp2_with fail
   all_goals exact⟨⟨k+1,by omega,rfl,HZ⟩,by simp[intOf];omega⟩
  ·obtain rfl:k=A.len:=by omega
   have g1:¬(A.len:Int) < (A.len:Int):=by omega
   go_wp2_with fail;go_ret;exact⟨rfl,xm (aa H0).1 (aa mq)⟩
end Go.Proofs.YtlmnjbipfacniaaGreatDoor
