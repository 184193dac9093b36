/- The document's Bare of a right statement. SyntaxShows' walk: -/
import Derived.Test.YtlmnjbipfacniaaGreatDoorBsB0Ms
import Derived.Test.YtlmnjbipfacniaaGreatDoorSyAlMs
import Derived.Test.YtlmnjbipfacniaaGreatDoorRtBare6Ms
import Derived.Test.YtlmnjbipfacniaaGreatDoorRegionInvMs
import Derived.Test.YtlmnjbipfacniaaGreatDoorRegionSinkMs
import Derived.WalkKit
import Derived.Test.YtlmnjbipfacniaaGreatDoorLsWMs
import Derived.Deep.Cut
import Derived.Deep.CutRange
import Derived.Test.YtlmnjbipfacniaaGreatDoorRtSameMs
set_option maxRecDepth 100000
set_option maxHeartbeats 8000000
namespace Go.Proofs.YtlmnjbipfacniaaGreatDoor
open Go.Proofs.Tryz
open Go.RowKit
theorem bs_any (S:SV) (w:World) (eJ:S.In w) (fU:S.wrong=0):Calls prog 10 #[S.v] w (sZ w S):=by
 obtain⟨-,co⟩:=qE fU;have iS:S.k=1∨S.k=2∨S.k=3∨S.k=4∨S.k=5∨S.k=6∨S.k=7:=by
  have hk:=co;unfold SV.kndE at hk
  (repeat' split at hk) <;> omega
 obtain⟨C,hC⟩:∃C,C=S.cells:=⟨_,rfl⟩;have dI:S.v=.agg C:=by rw[hC];rfl
 obtain⟨OC,hOC⟩:∃OC,OC=S.u0.cells:=⟨_,rfl⟩;have HBU:Hid (prog.built 30 [(0,.string S.lab),(1,.int .i64 S.k),(9,.string S.al),(10,.string S.ye),(11,.string S.no)]=some OC):=ab (by rw[hOC];exact J2 S.lab S.al S.ye S.no S.k)
 have HO24:Hid (OC.size=24):=ab (by rw[hOC];rfl)
 have HOO:Hid (OC.all (·.oneCell')=true):=ab (by rw[hOC];exact SV.cells_one _)
 obtain⟨W0,lp⟩:∃W0,W0=(w.alloc (.cells C 30)).alloc (.cells Z24 30):=⟨_,rfl⟩;have aN:W0.heap.size=w.heap.size+1+1:=by rw[lp];simp
 have rb:W0.heap[w.heap.size]? =some (.cells C 30 (0,0)):=by rw[lp];exact ci (by simp) (ax rfl)
 have kI:W0.heap[w.heap.size+1]? =some (.cells cc.cells 30 (0,0)):=by rw[lp];exact ax (by simp)
 have bd:Below w.heap.size w W0:=by rw[lp];exact(ba _).alloc (by simp) _
 obtain⟨W,hW⟩:∃W,W=(W0.alloc (.cells Z24 30)).setRow W0.heap.size OC:=⟨_,rfl⟩;have oE:Hid ((W0.alloc (.cells Z24 30)).heap[W0.heap.size]? =some (.cells cc.cells 30 (0,0))):=ab (ax rfl);have H0:Hid (BS w W S S.u0):=ab (by
  have hn:=aa oE;rw[hW];refine⟨?_, ?_, ?_,ed (bd.alloc (by omega) _) _ (by omega) _,eJ,fun X _ _=>u0_in eJ X⟩
  ·rw[←hC];exact(eZ _ _ _ _ (by omega)).trans (ci (by omega) rb)
  ·exact(eZ _ _ _ _ (by omega)).trans (ci (by omega) kI)
  ·rw[←hOC,←aN];exact bW _ _ _ _ _ _ hn)
 have jN:=ab (fun (hq:S.tg.badX=0) (X:World) (h:Below w.heap.size w X)=>show Calls prog 28 #[.agg #[.int .i64 S.tg.k,.string S.tg.t,.int .i64 S.tg.n,.string S.tg.nm,.slice S.tg.xa S.tg.len S.tg.cap]] X fun e w'=>(∃U:PT,e=.returned (pv U)∧U.can=S.tg.bex∧bf X.heap.size w' U)∧Below X.heap.size X w' from Fp S.tg X (PT.In.later h eJ.tg) hq)
 have gN:=ab (fun (hq:S.va.badX=0) (X:World) (h:Below w.heap.size w X)=>show Calls prog 28 #[.agg #[.int .i64 S.va.k,.string S.va.t,.int .i64 S.va.n,.string S.va.nm,.slice S.va.xa S.va.len S.va.cap]] X fun e w'=>(∃U:PT,e=.returned (pv U)∧U.can=S.va.bex∧bf X.heap.size w' U)∧Below X.heap.size X w' from Fp S.va X (PT.In.later h eJ.va) hq)
 have mK:=ab (fun (hq:S.pa.bad=0) (X:World) (h:Below w.heap.size w X)=>show Calls prog 29 #[.agg #[.int .i64 S.pa.k,.string S.pa.t,.int .i64 S.pa.n,.string S.pa.nm,.slice S.pa.xa S.pa.len S.pa.cap]] X fun e w'=>(∃U:PT,e=.returned (pv U)∧U.can=S.pa.bar∧bf X.heap.size w' U)∧Below X.heap.size X w' from Hp S.pa X (PT.In.later h eJ.pa) hq)
 have b0:W0.cell? ⟨w.heap.size,0,none⟩=some (.string S.lab):=aY rb (by rw[hC];rfl)
 have b1:W0.cell? ⟨w.heap.size,1,none⟩=some (.int .i64 S.k):=aY rb (by rw[hC];rfl)
 have b21:W0.cell? ⟨w.heap.size,21,none⟩=some (.string S.al):=aY rb (by rw[hC];rfl)
 have b22:W0.cell? ⟨w.heap.size,22,none⟩=some (.string S.ye):=aY rb (by rw[hC];rfl)
 have b23:W0.cell? ⟨w.heap.size,23,none⟩=some (.string S.no):=aY rb (by rw[hC];rfl)
 have HW:=ab hW;have fE:=ab lp;have ap:=ab aN;have oG:=ab co;have vH:=ab iS;rw[dI];clear hW lp aN rb kI bd hC hOC dI eJ fU co iS;go_enter func10,ntmps10;go_upto_region 1 with fail
 rw[show (w.alloc (.cells C 30)).alloc (.cells Z24 30)=W0 from (aa fE).symm];clear fE;go_upto_region 2 with (first
  | (refine GU rfl 30 0 1 9 10 11 (.tmp 5) (.tmp 7) (.tmp 9) (.tmp 11) (.tmp 13) (.string S.lab) (.int .i64 S.k) (.string S.al) (.string S.ye) (.string S.no) rfl OC rfl rfl rfl rfl rfl (aa HBU) ?_)
  | (refine bh rfl 30 _ _ rfl W0.heap.size OC rfl rfl 30 cc.cells (by with_reducible exact aa oE) (de.trans (by rw[aa HO24])) (by rw[aa HO24];rfl) (aa HOO) ?_)
  | fail)
 rw[show (W0.alloc (.cells Z24 30)).setRow W0.heap.size OC=W from (aa HW).symm,aa ap];clear HW HBU HO24 HOO oE ap b0 b1 b21 b22 b23;rcases aa vH with hk | hk | hk | hk | hk | hk | hk
 ·have co:=aa oG
  have eU:=ab hk;clear oG vH co hk jN gN mK
  as_aux_lemma=>
   have e1:W.cell? ⟨w.heap.size,1,none⟩=some (.int .i64 1):=by have h:=(aa H0).cell (i:=1) (x:=.int .i64 S.k) rfl;rw[aa eU] at h;exact h
   obtain⟨O,hO⟩:∃O,O=(S.u0:SV).cells:=⟨_,rfl⟩;have HOE:=ab hO;have fP:Hid (O.size=24):=ab (by rw[hO];rfl)
   have pz:Hid (O.all (·.oneCell')=true):=ab (by rw[hO];exact SV.cells_one _)
   have HO:Hid ((W).heap[w.heap.size+1+1]? =some (.cells O 30 (0,0))):=ab (by rw[hO];exact(aa H0).out)
   have HX:Hid ((W).heap[w.heap.size+1]? =some (.cells cc.cells 30 (0,0))):=ab ((aa H0).res);have dY:Hid (sZ w S (.returned (.agg O)) (W.setRow (w.heap.size+1) O)):=ab (by rw[hO];exact(aa H0).fin (by
    unfold SV.can SV.bst SV.u0;rw[aa eU];simp only[vZ];rfl))
   clear hO;go_wp2_with (first
    | (refine io rfl 30 _ rfl (w.heap.size+1+1) rfl 30 O (0,0) _ (by with_reducible exact aa HO) underlying30 rfl (de.trans (by rw[aa fP])) ?_)
    | (refine bh rfl 30 _ _ rfl (w.heap.size+1) O rfl rfl 30 cc.cells (by with_reducible exact aa HX) (de.trans (by rw[aa fP])) (by rw[aa fP];rfl) (aa pz) ?_)
    | fail)
   (try simp only[Exit.inBlock,Exit.then])
   refine bK (dM rfl _ _ (w.heap.size+1) 30 O (0,0) _ rfl (bW _ _ _ _ _ _ (aa HX)) underlying30 rfl (de.trans (by rw[aa fP]))) rfl ?_
   exact aa dY
 ·have co:=aa oG
  have ip:S.va.badX=0:=by
   unfold SV.kndE at co;rw[hk] at co;exact(ft co).2
  have gN:=ab (aa gN ip);have eU:=ab hk;clear oG vH co hk ip jN mK
  as_aux_lemma=>
   have e1:W.cell? ⟨w.heap.size,1,none⟩=some (.int .i64 2):=by have h:=(aa H0).cell (i:=1) (x:=.int .i64 S.k) rfl;rw[aa eU] at h;exact h
   have e7:W.cell? ⟨w.heap.size,7,none⟩=some (.int .i64 S.va.k):=(aa H0).cell rfl;have e8:W.cell? ⟨w.heap.size,8,none⟩=some (.string S.va.t):=(aa H0).cell rfl;have e9:W.cell? ⟨w.heap.size,9,none⟩=some (.int .i64 S.va.n):=(aa H0).cell rfl;have e10:W.cell? ⟨w.heap.size,10,none⟩=some (.string S.va.nm):=(aa H0).cell rfl;have e11:W.cell? ⟨w.heap.size,11,none⟩=some (.slice S.va.xa S.va.len S.va.cap):=(aa H0).cell rfl;go_wp2_with fail;refine(aa gN _ (aa H0).bel).mono ?_;rintro e w1 ⟨⟨T1,rfl,hT,hL⟩,hb⟩;have ay:=(aa H0).lt;have ly:=ab ((aa H0).below hb);have hL:bf (w.heap.size+1+1+1) w1 T1:=fun X hX=>hL X fun i h1 h2=>hX i (by omega) h2
   have pu:=ab hT;obtain⟨W1,me⟩:∃W1,W1=(((((w1).setCell ⟨w.heap.size+1+1,7,none⟩ (.int .i64 T1.k)).setCell ⟨w.heap.size+1+1,8,none⟩ (.string T1.t)).setCell ⟨w.heap.size+1+1,9,none⟩ (.int .i64 T1.n)).setCell ⟨w.heap.size+1+1,10,none⟩ (.string T1.nm)).setCell ⟨w.heap.size+1+1,11,none⟩ (.slice T1.xa T1.len T1.cap):=⟨_,rfl⟩;have H1:Hid (BS w W1 S {S.u0 with va:=T1}):=ab (by rw[me];exact(aa ly).va hL)
   have ff:=fun k=>cN w1 (w.heap.size+1+1) k _ _ (aa ly).out
   have au:=(aa ly).lt;have bG:=ab me;clear hT hL hb ay me gN;have o7:(w1).cell? ⟨w.heap.size+1+1,7,none⟩=some (.int .i64 0):=aY (aa ly).out rfl;have o8:(w1).cell? ⟨w.heap.size+1+1,8,none⟩=some (.string ⟨#[]⟩):=aY (aa ly).out rfl;have o9:(w1).cell? ⟨w.heap.size+1+1,9,none⟩=some (.int .i64 0):=aY (aa ly).out rfl;have o10:(w1).cell? ⟨w.heap.size+1+1,10,none⟩=some (.string ⟨#[]⟩):=aY (aa ly).out rfl;have o11:(w1).cell? ⟨w.heap.size+1+1,11,none⟩=some (.slice none 0 0):=aY (aa ly).out rfl;unfold pv;go_upto_region 13 with fail
   rw[show (((((w1).setCell ⟨w.heap.size+1+1,7,none⟩ (.int .i64 T1.k)).setCell ⟨w.heap.size+1+1,8,none⟩ (.string T1.t)).setCell ⟨w.heap.size+1+1,9,none⟩ (.int .i64 T1.n)).setCell ⟨w.heap.size+1+1,10,none⟩ (.string T1.nm)).setCell ⟨w.heap.size+1+1,11,none⟩ (.slice T1.xa T1.len T1.cap)=W1 from (aa bG).symm];clear ff au bG ly e7 e8 e9 e10 e11 o7 o8 o9 o10 o11;clear e1;have e1:W1.cell? ⟨w.heap.size,1,none⟩=some (.int .i64 2):=by have h:=(aa H1).cell (i:=1) (x:=.int .i64 S.k) rfl;rw[aa eU] at h;exact h
   obtain⟨O,hO⟩:∃O,O=({S.u0 with va:=T1}:SV).cells:=⟨_,rfl⟩
   have HOE:=ab hO;have fP:Hid (O.size=24):=ab (by rw[hO];rfl)
   have pz:Hid (O.all (·.oneCell')=true):=ab (by rw[hO];exact SV.cells_one _)
   have HO:Hid ((W1).heap[w.heap.size+1+1]? =some (.cells O 30 (0,0))):=ab (by rw[hO];exact(aa H1).out)
   have HX:Hid ((W1).heap[w.heap.size+1]? =some (.cells cc.cells 30 (0,0))):=ab ((aa H1).res);have dY:Hid (sZ w S (.returned (.agg O)) (W1.setRow (w.heap.size+1) O)):=ab (by rw[hO];exact(aa H1).fin (by
    unfold SV.can SV.bst SV.u0;rw[aa eU];simp only[vZ,aa pu];rfl))
   clear hO;go_wp2_with (first
    | (refine io rfl 30 _ rfl (w.heap.size+1+1) rfl 30 O (0,0) _ (by with_reducible exact aa HO) underlying30 rfl (de.trans (by rw[aa fP])) ?_)
    | (refine bh rfl 30 _ _ rfl (w.heap.size+1) O rfl rfl 30 cc.cells (by with_reducible exact aa HX) (de.trans (by rw[aa fP])) (by rw[aa fP];rfl) (aa pz) ?_)
    | fail)
   (try simp only[Exit.inBlock,Exit.then])
   refine bK (dM rfl _ _ (w.heap.size+1) 30 O (0,0) _ rfl (bW _ _ _ _ _ _ (aa HX)) underlying30 rfl (de.trans (by rw[aa fP]))) rfl ?_
   exact aa dY
 ·have co:=aa oG
  have hq:ek [lT S.tg,S.va.wrongX]=0:=by
   unfold SV.kndE at co;rw[hk] at co;exact co
  have kJ:S.tg.badX=0:=(ft (rR (cH hq).1).1).2;have ip:S.va.badX=0:=(ft (cH (cH hq).2).1).2;clear hq;have jN:=ab (aa jN kJ);have gN:=ab (aa gN ip);have eU:=ab hk;clear oG vH co hk kJ ip mK
  as_aux_lemma=>
   have e1:W.cell? ⟨w.heap.size,1,none⟩=some (.int .i64 3):=by have h:=(aa H0).cell (i:=1) (x:=.int .i64 S.k) rfl;rw[aa eU] at h;exact h
   go_upto_region 8 with fail
   obtain⟨S0,aN⟩:∃S0:World→Prop,S0=fun w'=>w'.cell? ⟨w.heap.size,2,none⟩=some (.int .i64 S.tg.k)∧w'.cell? ⟨w.heap.size,3,none⟩=some (.string S.tg.t)∧w'.cell? ⟨w.heap.size,4,none⟩=some (.int .i64 S.tg.n)∧w'.cell? ⟨w.heap.size,5,none⟩=some (.string S.tg.nm)∧w'.cell? ⟨w.heap.size,6,none⟩=some (.slice S.tg.xa S.tg.len S.tg.cap)∧w'.cell? ⟨w.heap.size,7,none⟩=some (.int .i64 S.va.k)∧w'.cell? ⟨w.heap.size,8,none⟩=some (.string S.va.t)∧w'.cell? ⟨w.heap.size,9,none⟩=some (.int .i64 S.va.n)∧w'.cell? ⟨w.heap.size,10,none⟩=some (.string S.va.nm)∧w'.cell? ⟨w.heap.size,11,none⟩=some (.slice S.va.xa S.va.len S.va.cap):=⟨_,rfl⟩
   have aW:Hid (∀X U,BS w X S U→S0 X):=ab (fun X U h=>by rw[aN];exact⟨h.cell rfl,h.cell rfl,h.cell rfl,h.cell rfl,h.cell rfl,h.cell rfl,h.cell rfl,h.cell rfl,h.cell rfl,h.cell rfl⟩)
   have ap:=ab aN;have H1:=ab ((aa H0).below (aV _ _).drew);have hS:S0 W.drew:=aa aW _ _ (aa H1);clear aN;refine gt 9 S0 ?_;intro F;refine aK F 0 ap hS ?_
   (try simp only[aH,aG])
   (try go_frame)
   refine aK F 1 ap hS ?_
   (try simp only[aH,aJ,aG])
   (try go_frame)
   refine aK F 3 ap hS ?_
   (try simp only[aH,aJ,aG])
   (try go_frame)
   refine aK F 4 ap hS ?_
   (try simp only[aH,aJ,aG])
   (try go_frame)
   refine ce 2 (fun K2 eD=> ?_)
   go_simp;refine(aa jN _ (aa H1).bel).mono ?_;rintro e w2 ⟨⟨T2,rfl,hT,hL⟩,hb⟩;have ay:=(aa H1).lt;have H2:=ab ((aa H1).below hb);have kU:Hid (bf (w.heap.size+1+1+1) w2 T2):=ab (fun X hX=>hL X fun i h1 h2=>hX i (by omega) h2)
   have ke:=ab hT;have HBB2:=ab hb;clear hT hL hb ay jN;unfold pv;clear hS;have hS:S0 w2:=aa aW _ _ (aa H2);refine eD _ _ hS ?_
   (try simp only[aH,aJ,aG])
   (try go_frame)
   refine aK F 6 ap hS ?_
   (try simp only[aH,aJ,aG])
   (try go_frame)
   refine ce 5 (fun K3 cC=> ?_)
   go_simp;refine(aa gN _ (aa H2).bel).mono ?_;rintro e w3 ⟨⟨T3,rfl,hT,hL⟩,hb⟩;have ay:=(aa H2).lt;have H3:=ab ((aa H2).below hb);have kl:Hid (bf (w.heap.size+1+1+1) w3 T3):=ab (fun X hX=>hL X fun i h1 h2=>hX i (by omega) h2)
   have tV:=ab hT;have wJ:=ab hb;clear hT hL hb ay gN;unfold pv;clear hS;have hS:S0 w3:=aa aW _ _ (aa H3);refine cC _ _ hS ?_
   (try simp only[aH,aJ,aG])
   (try go_frame)
   have kU:Hid (bf (w.heap.size+1+1+1) w3 T2):=ab (fun X hX=>aa kU X fun i h1 h2=>(hX i h1 (gL h2 (aa wJ).size)).trans ((aa wJ).block i h2))
   obtain⟨W4,nF⟩:∃W4,W4=(((((w3).setCell ⟨w.heap.size+1+1,2,none⟩ (.int .i64 T2.k)).setCell ⟨w.heap.size+1+1,3,none⟩ (.string T2.t)).setCell ⟨w.heap.size+1+1,4,none⟩ (.int .i64 T2.n)).setCell ⟨w.heap.size+1+1,5,none⟩ (.string T2.nm)).setCell ⟨w.heap.size+1+1,6,none⟩ (.slice T2.xa T2.len T2.cap):=⟨_,rfl⟩;have h4:BS w W4 S {S.u0 with tg:=T2}:=by rw[nF];exact(aa H3).tg (aa kU)
   have hL4:bf (w.heap.size+1+1+1) W4 T3:=fun X hX=>by
    have ho:∀i,i≠w.heap.size+1+1→W4.heap[i]? =w3.heap[i]? :=fun i hi=>by rw[nF];exact lS w3 (w.heap.size+1+1) 2 i T2 hi
    have hz:W4.heap.size=w3.heap.size:=by rw[nF];exact mU w3 (w.heap.size+1+1) 2 T2
    exact aa kl X fun i h1 h2=>(hX i h1 (by rw[hz];exact h2)).trans (ho i (by omega))
   have H4:=ab h4;obtain⟨W5,ri⟩:∃W5,W5=(((((W4).setCell ⟨w.heap.size+1+1,7,none⟩ (.int .i64 T3.k)).setCell ⟨w.heap.size+1+1,8,none⟩ (.string T3.t)).setCell ⟨w.heap.size+1+1,9,none⟩ (.int .i64 T3.n)).setCell ⟨w.heap.size+1+1,10,none⟩ (.string T3.nm)).setCell ⟨w.heap.size+1+1,11,none⟩ (.slice T3.xa T3.len T3.cap):=⟨_,rfl⟩;have H5:Hid (BS w W5 S {{S.u0 with tg:=T2} with va:=T3}):=ab (by rw[ri];exact h4.va hL4)
   have ff:=fun k=>cN w3 (w.heap.size+1+1) k _ _ (aa H3).out
   have fg:=fun k=>cN W4 (w.heap.size+1+1) k _ _ h4.out
   have au:=(aa H3).lt;have hlu:=h4.lt;have vA:=ab nF;have pm:=ab ri;clear h4 hL4 nF ri;have o2:(w3).cell? ⟨w.heap.size+1+1,2,none⟩=some (.int .i64 0):=aY (aa H3).out rfl;have o3:(w3).cell? ⟨w.heap.size+1+1,3,none⟩=some (.string ⟨#[]⟩):=aY (aa H3).out rfl;have o4:(w3).cell? ⟨w.heap.size+1+1,4,none⟩=some (.int .i64 0):=aY (aa H3).out rfl;have o5:(w3).cell? ⟨w.heap.size+1+1,5,none⟩=some (.string ⟨#[]⟩):=aY (aa H3).out rfl;have o6:(w3).cell? ⟨w.heap.size+1+1,6,none⟩=some (.slice none 0 0):=aY (aa H3).out rfl;refine ce 7 (fun K4 bw=> ?_)
   go_simp;rw[show (((((w3).setCell ⟨w.heap.size+1+1,2,none⟩ (.int .i64 T2.k)).setCell ⟨w.heap.size+1+1,3,none⟩ (.string T2.t)).setCell ⟨w.heap.size+1+1,4,none⟩ (.int .i64 T2.n)).setCell ⟨w.heap.size+1+1,5,none⟩ (.string T2.nm)).setCell ⟨w.heap.size+1+1,6,none⟩ (.slice T2.xa T2.len T2.cap)=W4 from (aa vA).symm];clear hS ff au o2 o3 o4 o5 o6;have o7:(W4).cell? ⟨w.heap.size+1+1,7,none⟩=some (.int .i64 0):=aY (aa H4).out rfl;have o8:(W4).cell? ⟨w.heap.size+1+1,8,none⟩=some (.string ⟨#[]⟩):=aY (aa H4).out rfl;have o9:(W4).cell? ⟨w.heap.size+1+1,9,none⟩=some (.int .i64 0):=aY (aa H4).out rfl;have o10:(W4).cell? ⟨w.heap.size+1+1,10,none⟩=some (.string ⟨#[]⟩):=aY (aa H4).out rfl;have o11:(W4).cell? ⟨w.heap.size+1+1,11,none⟩=some (.slice none 0 0):=aY (aa H4).out rfl;have hS:S0 W4:=aa aW _ _ (aa H4);refine bw _ _ hS ?_
   (try simp only[aH,aJ,aG])
   (try go_frame)
   refine aK F 8 ap hS ?_
   (try simp only[aH,aJ,aG])
   (try go_frame)
   refine gy (by kernel_rfl) rfl (by kernel_rfl) (fun K5 dy=> ?_)
   go_simp;rw[show (((((W4).setCell ⟨w.heap.size+1+1,7,none⟩ (.int .i64 T3.k)).setCell ⟨w.heap.size+1+1,8,none⟩ (.string T3.t)).setCell ⟨w.heap.size+1+1,9,none⟩ (.int .i64 T3.n)).setCell ⟨w.heap.size+1+1,10,none⟩ (.string T3.nm)).setCell ⟨w.heap.size+1+1,11,none⟩ (.slice T3.xa T3.len T3.cap)=W5 from (aa pm).symm];refine dy _ _ ?_
   (try simp only[aH,aJ,aG])
   (try go_frame)
   clear eD cC bw dy K2 K3 K4 K5 F hS ap aW S0 fg hlu vA pm H1 H2 H3 H4 kU kl HBB2 wJ o7 o8 o9 o10 o11;clear e1;have e1:W5.cell? ⟨w.heap.size,1,none⟩=some (.int .i64 3):=by have h:=(aa H5).cell (i:=1) (x:=.int .i64 S.k) rfl;rw[aa eU] at h;exact h
   obtain⟨O,hO⟩:∃O,O=({{S.u0 with tg:=T2} with va:=T3}:SV).cells:=⟨_,rfl⟩
   have HOE:=ab hO;have fP:Hid (O.size=24):=ab (by rw[hO];rfl)
   have pz:Hid (O.all (·.oneCell')=true):=ab (by rw[hO];exact SV.cells_one _)
   have HO:Hid ((W5).heap[w.heap.size+1+1]? =some (.cells O 30 (0,0))):=ab (by rw[hO];exact(aa H5).out)
   have HX:Hid ((W5).heap[w.heap.size+1]? =some (.cells cc.cells 30 (0,0))):=ab ((aa H5).res);have dY:Hid (sZ w S (.returned (.agg O)) (W5.setRow (w.heap.size+1) O)):=ab (by rw[hO];exact(aa H5).fin (by
    unfold SV.can SV.bst SV.u0;rw[aa eU];simp only[vZ,aa ke,aa tV];rfl))
   clear hO;go_wp2_with (first
    | (refine io rfl 30 _ rfl (w.heap.size+1+1) rfl 30 O (0,0) _ (by with_reducible exact aa HO) underlying30 rfl (de.trans (by rw[aa fP])) ?_)
    | (refine bh rfl 30 _ _ rfl (w.heap.size+1) O rfl rfl 30 cc.cells (by with_reducible exact aa HX) (de.trans (by rw[aa fP])) (by rw[aa fP];rfl) (aa pz) ?_)
    | fail)
   (try simp only[Exit.inBlock,Exit.then])
   refine bK (dM rfl _ _ (w.heap.size+1) 30 O (0,0) _ rfl (bW _ _ _ _ _ _ (aa HX)) underlying30 rfl (de.trans (by rw[aa fP]))) rfl ?_
   exact aa dY
 ·have co:=aa oG
  have hq:ek [S.va.wrongX,S.pa.wrong]=0:=by
   unfold SV.kndE at co;rw[hk] at co;exact co
  have ip:S.va.badX=0:=(ft (cH hq).1).2;have nC:S.pa.bad=0:=(vO (cH (cH hq).2).1).2;clear hq;have gN:=ab (aa gN ip);have mK:=ab (aa mK nC);have eU:=ab hk;clear oG vH co hk ip nC jN
  as_aux_lemma=>
   have e1:W.cell? ⟨w.heap.size,1,none⟩=some (.int .i64 4):=by have h:=(aa H0).cell (i:=1) (x:=.int .i64 S.k) rfl;rw[aa eU] at h;exact h
   have e7:W.cell? ⟨w.heap.size,7,none⟩=some (.int .i64 S.va.k):=(aa H0).cell rfl;have e8:W.cell? ⟨w.heap.size,8,none⟩=some (.string S.va.t):=(aa H0).cell rfl;have e9:W.cell? ⟨w.heap.size,9,none⟩=some (.int .i64 S.va.n):=(aa H0).cell rfl;have e10:W.cell? ⟨w.heap.size,10,none⟩=some (.string S.va.nm):=(aa H0).cell rfl;have e11:W.cell? ⟨w.heap.size,11,none⟩=some (.slice S.va.xa S.va.len S.va.cap):=(aa H0).cell rfl;go_wp2_with fail;refine(aa gN _ (aa H0).bel).mono ?_;rintro e w1 ⟨⟨T1,rfl,hT,hL⟩,hb⟩;have ay:=(aa H0).lt;have ly:=ab ((aa H0).below hb);have hL:bf (w.heap.size+1+1+1) w1 T1:=fun X hX=>hL X fun i h1 h2=>hX i (by omega) h2
   have pu:=ab hT;obtain⟨W1,me⟩:∃W1,W1=(((((w1).setCell ⟨w.heap.size+1+1,7,none⟩ (.int .i64 T1.k)).setCell ⟨w.heap.size+1+1,8,none⟩ (.string T1.t)).setCell ⟨w.heap.size+1+1,9,none⟩ (.int .i64 T1.n)).setCell ⟨w.heap.size+1+1,10,none⟩ (.string T1.nm)).setCell ⟨w.heap.size+1+1,11,none⟩ (.slice T1.xa T1.len T1.cap):=⟨_,rfl⟩;have H1:Hid (BS w W1 S {S.u0 with va:=T1}):=ab (by rw[me];exact(aa ly).va hL)
   have ff:=fun k=>cN w1 (w.heap.size+1+1) k _ _ (aa ly).out
   have au:=(aa ly).lt;have bG:=ab me;clear hT hL hb ay me gN;have o7:(w1).cell? ⟨w.heap.size+1+1,7,none⟩=some (.int .i64 0):=aY (aa ly).out rfl;have o8:(w1).cell? ⟨w.heap.size+1+1,8,none⟩=some (.string ⟨#[]⟩):=aY (aa ly).out rfl;have o9:(w1).cell? ⟨w.heap.size+1+1,9,none⟩=some (.int .i64 0):=aY (aa ly).out rfl;have o10:(w1).cell? ⟨w.heap.size+1+1,10,none⟩=some (.string ⟨#[]⟩):=aY (aa ly).out rfl;have o11:(w1).cell? ⟨w.heap.size+1+1,11,none⟩=some (.slice none 0 0):=aY (aa ly).out rfl;unfold pv;go_upto_region 13 with fail
   rw[show (((((w1).setCell ⟨w.heap.size+1+1,7,none⟩ (.int .i64 T1.k)).setCell ⟨w.heap.size+1+1,8,none⟩ (.string T1.t)).setCell ⟨w.heap.size+1+1,9,none⟩ (.int .i64 T1.n)).setCell ⟨w.heap.size+1+1,10,none⟩ (.string T1.nm)).setCell ⟨w.heap.size+1+1,11,none⟩ (.slice T1.xa T1.len T1.cap)=W1 from (aa bG).symm];clear ff au bG ly e7 e8 e9 e10 e11 o7 o8 o9 o10 o11;clear e1;have e1:W1.cell? ⟨w.heap.size,1,none⟩=some (.int .i64 4):=by have h:=(aa H1).cell (i:=1) (x:=.int .i64 S.k) rfl;rw[aa eU] at h;exact h
   have e12:W1.cell? ⟨w.heap.size,12,none⟩=some (.int .i64 S.pa.k):=(aa H1).cell rfl;have e13:W1.cell? ⟨w.heap.size,13,none⟩=some (.string S.pa.t):=(aa H1).cell rfl;have e14:W1.cell? ⟨w.heap.size,14,none⟩=some (.int .i64 S.pa.n):=(aa H1).cell rfl;have e15:W1.cell? ⟨w.heap.size,15,none⟩=some (.string S.pa.nm):=(aa H1).cell rfl;have e16:W1.cell? ⟨w.heap.size,16,none⟩=some (.slice S.pa.xa S.pa.len S.pa.cap):=(aa H1).cell rfl;go_wp2_with fail;refine(aa mK _ (aa H1).bel).mono ?_;rintro e w2 ⟨⟨T2,rfl,hT,hL⟩,hb⟩;have ay:=(aa H1).lt;have lx:=ab ((aa H1).below hb);have hL:bf (w.heap.size+1+1+1) w2 T2:=fun X hX=>hL X fun i h1 h2=>hX i (by omega) h2
   have ke:=ab hT;obtain⟨W2,kM⟩:∃W2,W2=(((((w2).setCell ⟨w.heap.size+1+1,12,none⟩ (.int .i64 T2.k)).setCell ⟨w.heap.size+1+1,13,none⟩ (.string T2.t)).setCell ⟨w.heap.size+1+1,14,none⟩ (.int .i64 T2.n)).setCell ⟨w.heap.size+1+1,15,none⟩ (.string T2.nm)).setCell ⟨w.heap.size+1+1,16,none⟩ (.slice T2.xa T2.len T2.cap):=⟨_,rfl⟩;have H2:Hid (BS w W2 S {{S.u0 with va:=T1} with pa:=T2}):=ab (by rw[kM];exact(aa lx).pa hL)
   have ff:=fun k=>cN w2 (w.heap.size+1+1) k _ _ (aa lx).out
   have au:=(aa lx).lt;have fb:=ab kM;clear hT hL hb ay kM mK;have o12:(w2).cell? ⟨w.heap.size+1+1,12,none⟩=some (.int .i64 0):=aY (aa lx).out rfl;have o13:(w2).cell? ⟨w.heap.size+1+1,13,none⟩=some (.string ⟨#[]⟩):=aY (aa lx).out rfl;have o14:(w2).cell? ⟨w.heap.size+1+1,14,none⟩=some (.int .i64 0):=aY (aa lx).out rfl;have o15:(w2).cell? ⟨w.heap.size+1+1,15,none⟩=some (.string ⟨#[]⟩):=aY (aa lx).out rfl;have o16:(w2).cell? ⟨w.heap.size+1+1,16,none⟩=some (.slice none 0 0):=aY (aa lx).out rfl;unfold pv;go_upto_region 15 with fail
   rw[show (((((w2).setCell ⟨w.heap.size+1+1,12,none⟩ (.int .i64 T2.k)).setCell ⟨w.heap.size+1+1,13,none⟩ (.string T2.t)).setCell ⟨w.heap.size+1+1,14,none⟩ (.int .i64 T2.n)).setCell ⟨w.heap.size+1+1,15,none⟩ (.string T2.nm)).setCell ⟨w.heap.size+1+1,16,none⟩ (.slice T2.xa T2.len T2.cap)=W2 from (aa fb).symm];clear ff au fb lx e12 e13 e14 e15 e16 o12 o13 o14 o15 o16;clear e1;obtain⟨O,hO⟩:∃O,O=({{S.u0 with va:=T1} with pa:=T2}:SV).cells:=⟨_,rfl⟩
   have HOE:=ab hO;have fP:Hid (O.size=24):=ab (by rw[hO];rfl)
   have pz:Hid (O.all (·.oneCell')=true):=ab (by rw[hO];exact SV.cells_one _)
   have HO:Hid ((W2).heap[w.heap.size+1+1]? =some (.cells O 30 (0,0))):=ab (by rw[hO];exact(aa H2).out)
   have HX:Hid ((W2).heap[w.heap.size+1]? =some (.cells cc.cells 30 (0,0))):=ab ((aa H2).res);have dY:Hid (sZ w S (.returned (.agg O)) (W2.setRow (w.heap.size+1) O)):=ab (by rw[hO];exact(aa H2).fin (by
    unfold SV.can SV.bst SV.u0;rw[aa eU];simp only[vZ,aa pu,aa ke];rfl))
   clear hO;go_wp2_with (first
    | (refine io rfl 30 _ rfl (w.heap.size+1+1) rfl 30 O (0,0) _ (by with_reducible exact aa HO) underlying30 rfl (de.trans (by rw[aa fP])) ?_)
    | (refine bh rfl 30 _ _ rfl (w.heap.size+1) O rfl rfl 30 cc.cells (by with_reducible exact aa HX) (de.trans (by rw[aa fP])) (by rw[aa fP];rfl) (aa pz) ?_)
    | fail)
   (try simp only[Exit.inBlock,Exit.then])
   refine bK (dM rfl _ _ (w.heap.size+1) 30 O (0,0) _ rfl (bW _ _ _ _ _ _ (aa HX)) underlying30 rfl (de.trans (by rw[aa fP]))) rfl ?_
   exact aa dY
 ·have co:=aa oG
  have hq:ek [lT S.tg,S.pa.wrong,S.va.wrongX]=0:=by
   unfold SV.kndE at co;rw[hk] at co;exact co
  have kJ:S.tg.badX=0:=(ft (rR (cH hq).1).1).2;have nC:S.pa.bad=0:=(vO (cH (cH hq).2).1).2;have ip:S.va.badX=0:=(ft (cH (cH (cH hq).2).2).1).2;clear hq;have jN:=ab (aa jN kJ);have gN:=ab (aa gN ip);have mK:=ab (aa mK nC);have eU:=ab hk;clear oG vH co hk kJ ip nC
  as_aux_lemma=>
   have e1:W.cell? ⟨w.heap.size,1,none⟩=some (.int .i64 5):=by have h:=(aa H0).cell (i:=1) (x:=.int .i64 S.k) rfl;rw[aa eU] at h;exact h
   go_upto_region 8 with fail
   obtain⟨S0,aN⟩:∃S0:World→Prop,S0=fun w'=>w'.cell? ⟨w.heap.size,2,none⟩=some (.int .i64 S.tg.k)∧w'.cell? ⟨w.heap.size,3,none⟩=some (.string S.tg.t)∧w'.cell? ⟨w.heap.size,4,none⟩=some (.int .i64 S.tg.n)∧w'.cell? ⟨w.heap.size,5,none⟩=some (.string S.tg.nm)∧w'.cell? ⟨w.heap.size,6,none⟩=some (.slice S.tg.xa S.tg.len S.tg.cap)∧w'.cell? ⟨w.heap.size,7,none⟩=some (.int .i64 S.va.k)∧w'.cell? ⟨w.heap.size,8,none⟩=some (.string S.va.t)∧w'.cell? ⟨w.heap.size,9,none⟩=some (.int .i64 S.va.n)∧w'.cell? ⟨w.heap.size,10,none⟩=some (.string S.va.nm)∧w'.cell? ⟨w.heap.size,11,none⟩=some (.slice S.va.xa S.va.len S.va.cap):=⟨_,rfl⟩
   have aW:Hid (∀X U,BS w X S U→S0 X):=ab (fun X U h=>by rw[aN];exact⟨h.cell rfl,h.cell rfl,h.cell rfl,h.cell rfl,h.cell rfl,h.cell rfl,h.cell rfl,h.cell rfl,h.cell rfl,h.cell rfl⟩)
   have ap:=ab aN;have H1:=ab ((aa H0).below (aV _ _).drew);have hS:S0 W.drew:=aa aW _ _ (aa H1);clear aN;refine gt 9 S0 ?_;intro F;refine aK F 0 ap hS ?_
   (try simp only[aH,aG])
   (try go_frame)
   refine aK F 1 ap hS ?_
   (try simp only[aH,aJ,aG])
   (try go_frame)
   refine aK F 3 ap hS ?_
   (try simp only[aH,aJ,aG])
   (try go_frame)
   refine aK F 4 ap hS ?_
   (try simp only[aH,aJ,aG])
   (try go_frame)
   refine ce 2 (fun K2 eD=> ?_)
   go_simp;refine(aa jN _ (aa H1).bel).mono ?_;rintro e w2 ⟨⟨T2,rfl,hT,hL⟩,hb⟩;have ay:=(aa H1).lt;have H2:=ab ((aa H1).below hb);have kU:Hid (bf (w.heap.size+1+1+1) w2 T2):=ab (fun X hX=>hL X fun i h1 h2=>hX i (by omega) h2)
   have ke:=ab hT;have HBB2:=ab hb;clear hT hL hb ay jN;unfold pv;clear hS;have hS:S0 w2:=aa aW _ _ (aa H2);refine eD _ _ hS ?_
   (try simp only[aH,aJ,aG])
   (try go_frame)
   refine aK F 6 ap hS ?_
   (try simp only[aH,aJ,aG])
   (try go_frame)
   refine ce 5 (fun K3 cC=> ?_)
   go_simp;refine(aa gN _ (aa H2).bel).mono ?_;rintro e w3 ⟨⟨T3,rfl,hT,hL⟩,hb⟩;have ay:=(aa H2).lt;have H3:=ab ((aa H2).below hb);have kl:Hid (bf (w.heap.size+1+1+1) w3 T3):=ab (fun X hX=>hL X fun i h1 h2=>hX i (by omega) h2)
   have tV:=ab hT;have wJ:=ab hb;clear hT hL hb ay gN;unfold pv;clear hS;have hS:S0 w3:=aa aW _ _ (aa H3);refine cC _ _ hS ?_
   (try simp only[aH,aJ,aG])
   (try go_frame)
   have kU:Hid (bf (w.heap.size+1+1+1) w3 T2):=ab (fun X hX=>aa kU X fun i h1 h2=>(hX i h1 (gL h2 (aa wJ).size)).trans ((aa wJ).block i h2))
   obtain⟨W4,nF⟩:∃W4,W4=(((((w3).setCell ⟨w.heap.size+1+1,2,none⟩ (.int .i64 T2.k)).setCell ⟨w.heap.size+1+1,3,none⟩ (.string T2.t)).setCell ⟨w.heap.size+1+1,4,none⟩ (.int .i64 T2.n)).setCell ⟨w.heap.size+1+1,5,none⟩ (.string T2.nm)).setCell ⟨w.heap.size+1+1,6,none⟩ (.slice T2.xa T2.len T2.cap):=⟨_,rfl⟩;have h4:BS w W4 S {S.u0 with tg:=T2}:=by rw[nF];exact(aa H3).tg (aa kU)
   have hL4:bf (w.heap.size+1+1+1) W4 T3:=fun X hX=>by
    have ho:∀i,i≠w.heap.size+1+1→W4.heap[i]? =w3.heap[i]? :=fun i hi=>by rw[nF];exact lS w3 (w.heap.size+1+1) 2 i T2 hi
    have hz:W4.heap.size=w3.heap.size:=by rw[nF];exact mU w3 (w.heap.size+1+1) 2 T2
    exact aa kl X fun i h1 h2=>(hX i h1 (by rw[hz];exact h2)).trans (ho i (by omega))
   have H4:=ab h4;obtain⟨W5,ri⟩:∃W5,W5=(((((W4).setCell ⟨w.heap.size+1+1,7,none⟩ (.int .i64 T3.k)).setCell ⟨w.heap.size+1+1,8,none⟩ (.string T3.t)).setCell ⟨w.heap.size+1+1,9,none⟩ (.int .i64 T3.n)).setCell ⟨w.heap.size+1+1,10,none⟩ (.string T3.nm)).setCell ⟨w.heap.size+1+1,11,none⟩ (.slice T3.xa T3.len T3.cap):=⟨_,rfl⟩;have H5:Hid (BS w W5 S {{S.u0 with tg:=T2} with va:=T3}):=ab (by rw[ri];exact h4.va hL4)
   have ff:=fun k=>cN w3 (w.heap.size+1+1) k _ _ (aa H3).out
   have fg:=fun k=>cN W4 (w.heap.size+1+1) k _ _ h4.out
   have au:=(aa H3).lt;have hlu:=h4.lt;have vA:=ab nF;have pm:=ab ri;clear h4 hL4 nF ri;have o2:(w3).cell? ⟨w.heap.size+1+1,2,none⟩=some (.int .i64 0):=aY (aa H3).out rfl;have o3:(w3).cell? ⟨w.heap.size+1+1,3,none⟩=some (.string ⟨#[]⟩):=aY (aa H3).out rfl;have o4:(w3).cell? ⟨w.heap.size+1+1,4,none⟩=some (.int .i64 0):=aY (aa H3).out rfl;have o5:(w3).cell? ⟨w.heap.size+1+1,5,none⟩=some (.string ⟨#[]⟩):=aY (aa H3).out rfl;have o6:(w3).cell? ⟨w.heap.size+1+1,6,none⟩=some (.slice none 0 0):=aY (aa H3).out rfl;refine ce 7 (fun K4 bw=> ?_)
   go_simp;rw[show (((((w3).setCell ⟨w.heap.size+1+1,2,none⟩ (.int .i64 T2.k)).setCell ⟨w.heap.size+1+1,3,none⟩ (.string T2.t)).setCell ⟨w.heap.size+1+1,4,none⟩ (.int .i64 T2.n)).setCell ⟨w.heap.size+1+1,5,none⟩ (.string T2.nm)).setCell ⟨w.heap.size+1+1,6,none⟩ (.slice T2.xa T2.len T2.cap)=W4 from (aa vA).symm];clear hS ff au o2 o3 o4 o5 o6;have o7:(W4).cell? ⟨w.heap.size+1+1,7,none⟩=some (.int .i64 0):=aY (aa H4).out rfl;have o8:(W4).cell? ⟨w.heap.size+1+1,8,none⟩=some (.string ⟨#[]⟩):=aY (aa H4).out rfl;have o9:(W4).cell? ⟨w.heap.size+1+1,9,none⟩=some (.int .i64 0):=aY (aa H4).out rfl;have o10:(W4).cell? ⟨w.heap.size+1+1,10,none⟩=some (.string ⟨#[]⟩):=aY (aa H4).out rfl;have o11:(W4).cell? ⟨w.heap.size+1+1,11,none⟩=some (.slice none 0 0):=aY (aa H4).out rfl;have hS:S0 W4:=aa aW _ _ (aa H4);refine bw _ _ hS ?_
   (try simp only[aH,aJ,aG])
   (try go_frame)
   refine aK F 8 ap hS ?_
   (try simp only[aH,aJ,aG])
   (try go_frame)
   refine gy (by kernel_rfl) rfl (by kernel_rfl) (fun K5 dy=> ?_)
   go_simp;rw[show (((((W4).setCell ⟨w.heap.size+1+1,7,none⟩ (.int .i64 T3.k)).setCell ⟨w.heap.size+1+1,8,none⟩ (.string T3.t)).setCell ⟨w.heap.size+1+1,9,none⟩ (.int .i64 T3.n)).setCell ⟨w.heap.size+1+1,10,none⟩ (.string T3.nm)).setCell ⟨w.heap.size+1+1,11,none⟩ (.slice T3.xa T3.len T3.cap)=W5 from (aa pm).symm];refine dy _ _ ?_
   (try simp only[aH,aJ,aG])
   (try go_frame)
   clear eD cC bw dy K2 K3 K4 K5 F hS ap aW S0 fg hlu vA pm H1 H2 H3 H4 kU kl HBB2 wJ o7 o8 o9 o10 o11;clear e1;have e1:W5.cell? ⟨w.heap.size,1,none⟩=some (.int .i64 5):=by have h:=(aa H5).cell (i:=1) (x:=.int .i64 S.k) rfl;rw[aa eU] at h;exact h
   have e12:W5.cell? ⟨w.heap.size,12,none⟩=some (.int .i64 S.pa.k):=(aa H5).cell rfl;have e13:W5.cell? ⟨w.heap.size,13,none⟩=some (.string S.pa.t):=(aa H5).cell rfl;have e14:W5.cell? ⟨w.heap.size,14,none⟩=some (.int .i64 S.pa.n):=(aa H5).cell rfl;have e15:W5.cell? ⟨w.heap.size,15,none⟩=some (.string S.pa.nm):=(aa H5).cell rfl;have e16:W5.cell? ⟨w.heap.size,16,none⟩=some (.slice S.pa.xa S.pa.len S.pa.cap):=(aa H5).cell rfl;go_wp2_with fail;refine(aa mK _ (aa H5).bel).mono ?_;rintro e w6 ⟨⟨T6,rfl,hT,hL⟩,hb⟩;have ay:=(aa H5).lt;have ub:=ab ((aa H5).below hb);have hL:bf (w.heap.size+1+1+1) w6 T6:=fun X hX=>hL X fun i h1 h2=>hX i (by omega) h2
   have pr:=ab hT;obtain⟨W6,hW6⟩:∃W6,W6=(((((w6).setCell ⟨w.heap.size+1+1,12,none⟩ (.int .i64 T6.k)).setCell ⟨w.heap.size+1+1,13,none⟩ (.string T6.t)).setCell ⟨w.heap.size+1+1,14,none⟩ (.int .i64 T6.n)).setCell ⟨w.heap.size+1+1,15,none⟩ (.string T6.nm)).setCell ⟨w.heap.size+1+1,16,none⟩ (.slice T6.xa T6.len T6.cap):=⟨_,rfl⟩;have H6:Hid (BS w W6 S {{{S.u0 with tg:=T2} with va:=T3} with pa:=T6}):=ab (by rw[hW6];exact(aa ub).pa hL)
   have ff:=fun k=>cN w6 (w.heap.size+1+1) k _ _ (aa ub).out
   have au:=(aa ub).lt;have HW6:=ab hW6;clear hT hL hb ay hW6 mK;have o12:(w6).cell? ⟨w.heap.size+1+1,12,none⟩=some (.int .i64 0):=aY (aa ub).out rfl;have o13:(w6).cell? ⟨w.heap.size+1+1,13,none⟩=some (.string ⟨#[]⟩):=aY (aa ub).out rfl;have o14:(w6).cell? ⟨w.heap.size+1+1,14,none⟩=some (.int .i64 0):=aY (aa ub).out rfl;have o15:(w6).cell? ⟨w.heap.size+1+1,15,none⟩=some (.string ⟨#[]⟩):=aY (aa ub).out rfl;have o16:(w6).cell? ⟨w.heap.size+1+1,16,none⟩=some (.slice none 0 0):=aY (aa ub).out rfl;unfold pv;go_upto_region 15 with fail
   rw[show (((((w6).setCell ⟨w.heap.size+1+1,12,none⟩ (.int .i64 T6.k)).setCell ⟨w.heap.size+1+1,13,none⟩ (.string T6.t)).setCell ⟨w.heap.size+1+1,14,none⟩ (.int .i64 T6.n)).setCell ⟨w.heap.size+1+1,15,none⟩ (.string T6.nm)).setCell ⟨w.heap.size+1+1,16,none⟩ (.slice T6.xa T6.len T6.cap)=W6 from (aa HW6).symm];clear ff au HW6 ub e12 e13 e14 e15 e16 o12 o13 o14 o15 o16;clear e1;obtain⟨O,hO⟩:∃O,O=({{{S.u0 with tg:=T2} with va:=T3} with pa:=T6}:SV).cells:=⟨_,rfl⟩
   have HOE:=ab hO;have fP:Hid (O.size=24):=ab (by rw[hO];rfl)
   have pz:Hid (O.all (·.oneCell')=true):=ab (by rw[hO];exact SV.cells_one _)
   have HO:Hid ((W6).heap[w.heap.size+1+1]? =some (.cells O 30 (0,0))):=ab (by rw[hO];exact(aa H6).out)
   have HX:Hid ((W6).heap[w.heap.size+1]? =some (.cells cc.cells 30 (0,0))):=ab ((aa H6).res);have dY:Hid (sZ w S (.returned (.agg O)) (W6.setRow (w.heap.size+1) O)):=ab (by rw[hO];exact(aa H6).fin (by
    unfold SV.can SV.bst SV.u0;rw[aa eU];simp only[aa ke,aa tV,aa pr];rfl))
   clear hO;go_wp2_with (first
    | (refine io rfl 30 _ rfl (w.heap.size+1+1) rfl 30 O (0,0) _ (by with_reducible exact aa HO) underlying30 rfl (de.trans (by rw[aa fP])) ?_)
    | (refine bh rfl 30 _ _ rfl (w.heap.size+1) O rfl rfl 30 cc.cells (by with_reducible exact aa HX) (de.trans (by rw[aa fP])) (by rw[aa fP];rfl) (aa pz) ?_)
    | fail)
   (try simp only[Exit.inBlock,Exit.then])
   refine bK (dM rfl _ _ (w.heap.size+1) 30 O (0,0) _ rfl (bW _ _ _ _ _ _ (aa HX)) underlying30 rfl (de.trans (by rw[aa fP]))) rfl ?_
   exact aa dY
 ·have co:=aa oG
  have hq:ek [dH [S.nm],S.pa.wrong]=0:=by
   unfold SV.kndE at co;rw[hk] at co;exact co
  have nC:S.pa.bad=0:=(vO (cH (cH hq).2).1).2;clear hq;have mK:=ab (aa mK nC);have eU:=ab hk;clear oG vH co hk nC jN gN
  as_aux_lemma=>
   have e1:W.cell? ⟨w.heap.size,1,none⟩=some (.int .i64 6):=by have h:=(aa H0).cell (i:=1) (x:=.int .i64 S.k) rfl;rw[aa eU] at h;exact h
   have e17:W.cell? ⟨w.heap.size,17,none⟩=some (.string S.nm):=(aa H0).cell rfl;have ff:=fun k=>cN W (w.heap.size+1+1) k _ _ (aa H0).out
   have au:=(aa H0).lt;obtain⟨W1,me⟩:∃W1,W1=W.setCell ⟨w.heap.size+1+1,17,none⟩ (.string S.nm):=⟨_,rfl⟩;have H1:Hid (BS w W1 S {S.u0 with nm:=S.nm}):=ab (by rw[me];exact(aa H0).nm)
   have bG:=ab me;clear me;have o17:W.cell? ⟨w.heap.size+1+1,17,none⟩=some (.string ⟨#[]⟩):=aY (aa H0).out rfl;go_upto_region 13 with fail
   rw[show W.setCell ⟨w.heap.size+1+1,17,none⟩ (.string S.nm)=W1 from (aa bG).symm];clear ff au bG e17 o17;clear e1;have e1:W1.cell? ⟨w.heap.size,1,none⟩=some (.int .i64 6):=by have h:=(aa H1).cell (i:=1) (x:=.int .i64 S.k) rfl;rw[aa eU] at h;exact h
   have e12:W1.cell? ⟨w.heap.size,12,none⟩=some (.int .i64 S.pa.k):=(aa H1).cell rfl;have e13:W1.cell? ⟨w.heap.size,13,none⟩=some (.string S.pa.t):=(aa H1).cell rfl;have e14:W1.cell? ⟨w.heap.size,14,none⟩=some (.int .i64 S.pa.n):=(aa H1).cell rfl;have e15:W1.cell? ⟨w.heap.size,15,none⟩=some (.string S.pa.nm):=(aa H1).cell rfl;have e16:W1.cell? ⟨w.heap.size,16,none⟩=some (.slice S.pa.xa S.pa.len S.pa.cap):=(aa H1).cell rfl;go_wp2_with fail;refine(aa mK _ (aa H1).bel).mono ?_;rintro e w2 ⟨⟨T2,rfl,hT,hL⟩,hb⟩;have ay:=(aa H1).lt;have lx:=ab ((aa H1).below hb);have hL:bf (w.heap.size+1+1+1) w2 T2:=fun X hX=>hL X fun i h1 h2=>hX i (by omega) h2
   have ke:=ab hT;obtain⟨W2,kM⟩:∃W2,W2=(((((w2).setCell ⟨w.heap.size+1+1,12,none⟩ (.int .i64 T2.k)).setCell ⟨w.heap.size+1+1,13,none⟩ (.string T2.t)).setCell ⟨w.heap.size+1+1,14,none⟩ (.int .i64 T2.n)).setCell ⟨w.heap.size+1+1,15,none⟩ (.string T2.nm)).setCell ⟨w.heap.size+1+1,16,none⟩ (.slice T2.xa T2.len T2.cap):=⟨_,rfl⟩;have H2:Hid (BS w W2 S {{S.u0 with nm:=S.nm} with pa:=T2}):=ab (by rw[kM];exact(aa lx).pa hL)
   have ff:=fun k=>cN w2 (w.heap.size+1+1) k _ _ (aa lx).out
   have au:=(aa lx).lt;have fb:=ab kM;clear hT hL hb ay kM mK;have o12:(w2).cell? ⟨w.heap.size+1+1,12,none⟩=some (.int .i64 0):=aY (aa lx).out rfl;have o13:(w2).cell? ⟨w.heap.size+1+1,13,none⟩=some (.string ⟨#[]⟩):=aY (aa lx).out rfl;have o14:(w2).cell? ⟨w.heap.size+1+1,14,none⟩=some (.int .i64 0):=aY (aa lx).out rfl;have o15:(w2).cell? ⟨w.heap.size+1+1,15,none⟩=some (.string ⟨#[]⟩):=aY (aa lx).out rfl;have o16:(w2).cell? ⟨w.heap.size+1+1,16,none⟩=some (.slice none 0 0):=aY (aa lx).out rfl;unfold pv;go_upto_region 15 with fail
   rw[show (((((w2).setCell ⟨w.heap.size+1+1,12,none⟩ (.int .i64 T2.k)).setCell ⟨w.heap.size+1+1,13,none⟩ (.string T2.t)).setCell ⟨w.heap.size+1+1,14,none⟩ (.int .i64 T2.n)).setCell ⟨w.heap.size+1+1,15,none⟩ (.string T2.nm)).setCell ⟨w.heap.size+1+1,16,none⟩ (.slice T2.xa T2.len T2.cap)=W2 from (aa fb).symm];clear ff au fb lx e12 e13 e14 e15 e16 o12 o13 o14 o15 o16;clear e1;obtain⟨O,hO⟩:∃O,O=({{S.u0 with nm:=S.nm} with pa:=T2}:SV).cells:=⟨_,rfl⟩
   have HOE:=ab hO;have fP:Hid (O.size=24):=ab (by rw[hO];rfl)
   have pz:Hid (O.all (·.oneCell')=true):=ab (by rw[hO];exact SV.cells_one _)
   have HO:Hid ((W2).heap[w.heap.size+1+1]? =some (.cells O 30 (0,0))):=ab (by rw[hO];exact(aa H2).out)
   have HX:Hid ((W2).heap[w.heap.size+1]? =some (.cells cc.cells 30 (0,0))):=ab ((aa H2).res);have dY:Hid (sZ w S (.returned (.agg O)) (W2.setRow (w.heap.size+1) O)):=ab (by rw[hO];exact(aa H2).fin (by
    unfold SV.can SV.bst SV.u0;rw[aa eU];simp only[vZ,aa ke];rfl))
   clear hO;go_wp2_with (first
    | (refine io rfl 30 _ rfl (w.heap.size+1+1) rfl 30 O (0,0) _ (by with_reducible exact aa HO) underlying30 rfl (de.trans (by rw[aa fP])) ?_)
    | (refine bh rfl 30 _ _ rfl (w.heap.size+1) O rfl rfl 30 cc.cells (by with_reducible exact aa HX) (de.trans (by rw[aa fP])) (by rw[aa fP];rfl) (aa pz) ?_)
    | fail)
   (try simp only[Exit.inBlock,Exit.then])
   refine bK (dM rfl _ _ (w.heap.size+1) 30 O (0,0) _ rfl (bW _ _ _ _ _ _ (aa HX)) underlying30 rfl (de.trans (by rw[aa fP]))) rfl ?_
   exact aa dY
 ·have co:=aa oG
  have eU:=ab hk;clear oG vH co hk jN gN mK
  as_aux_lemma=>
   have e1:W.cell? ⟨w.heap.size,1,none⟩=some (.int .i64 7):=by have h:=(aa H0).cell (i:=1) (x:=.int .i64 S.k) rfl;rw[aa eU] at h;exact h
   go_upto_region 12 with fail
   obtain⟨S0,aN⟩:∃S0:World→Prop,S0=fun w'=>w'.cell? ⟨w.heap.size,17,none⟩=some (.string S.nm)∧w'.cell? ⟨w.heap.size,18,none⟩=some (.string S.en)∧w'.cell? ⟨w.heap.size,19,none⟩=some (.slice S.ps.xa S.ps.l.length S.ps.cap)∧w'.cell? ⟨w.heap.size,20,none⟩=some (.slice S.ls.xa S.ls.l.length S.ls.cap):=⟨_,rfl⟩
   have aW:Hid (∀X U,BS w X S U→S0 X):=ab (fun X U h=>by rw[aN];exact⟨h.cell rfl,h.cell rfl,h.cell rfl,h.cell rfl⟩)
   have ap:=ab aN;have H1:=ab ((aa H0).below (aV _ _).drew);have hS:S0 W.drew:=aa aW _ _ (aa H1);clear aN;refine gt 15 S0 ?_;intro F;refine aK F 0 ap hS ?_
   (try simp only[aH,aG])
   (try go_frame)
   refine aK F 1 ap hS ?_
   (try simp only[aH,aJ,aG])
   (try go_frame)
   refine aK F 2 ap hS ?_
   (try simp only[aH,aJ,aG])
   (try go_frame)
   refine aK F 3 ap hS ?_
   (try simp only[aH,aJ,aG])
   (try go_frame)
   refine aK F 4 ap hS ?_
   (try simp only[aH,aJ,aG])
   (try go_frame)
   refine aK F 5 ap hS ?_
   (try simp only[aH,aJ,aG])
   (try go_frame)
   refine aK F 6 ap hS ?_
   (try simp only[aH,aJ,aG])
   (try go_frame)
   refine aK F 7 ap hS ?_
   (try simp only[aH,aJ,aG])
   (try go_frame)
   refine aK F 8 ap hS ?_
   (try simp only[aH,aJ,aG])
   (try go_frame)
   obtain⟨W2,kM⟩:∃W2,W2=(W.setCell ⟨w.heap.size+1+1,17,none⟩ (.string S.nm)).drew:=⟨_,rfl⟩;have H2:Hid (BS w W2 S {S.u0 with nm:=S.nm}):=ab (by rw[kM];exact((aa H0).nm).below (aV _ _).drew)
   have ff:=fun k=>cN (W.drew) (w.heap.size+1+1) k _ _ (aa H1).out
   have au:=(aa H1).lt;have fb:=ab kM;clear kM;have o17:(W.drew).cell? ⟨w.heap.size+1+1,17,none⟩=some (.string ⟨#[]⟩):=aY (aa H1).out rfl;refine ce 9 (fun K2 eD=> ?_)
   go_simp;rw[show (W.setCell ⟨w.heap.size+1+1,17,none⟩ (.string S.nm)).drew=W2 from (aa fb).symm];clear ff au fb H1 o17;clear hS;have hS:S0 W2:=aa aW _ _ (aa H2);refine eD _ _ hS ?_
   (try simp only[aH,aJ,aG])
   (try go_frame)
   refine aK F 10 ap hS ?_
   (try simp only[aH,aJ,aG])
   (try go_frame)
   obtain⟨W3,hW3⟩:∃W3,W3=(W2).setCell ⟨w.heap.size+1+1,18,none⟩ (.string S.en):=⟨_,rfl⟩;have H3:Hid (BS w W3 S {{S.u0 with nm:=S.nm} with en:=S.en}):=ab (by rw[hW3];exact(aa H2).en)
   have ff:=fun k=>cN (W2) (w.heap.size+1+1) k _ _ (aa H2).out
   have au:=(aa H2).lt;have dG:=ab hW3;clear hW3;have o18:(W2).cell? ⟨w.heap.size+1+1,18,none⟩=some (.string ⟨#[]⟩):=aY (aa H2).out rfl;refine ce 11 (fun K3 cC=> ?_)
   go_simp;rw[show (W2).setCell ⟨w.heap.size+1+1,18,none⟩ (.string S.en)=W3 from (aa dG).symm];clear ff au dG H2 o18;clear hS;have hS:S0 W3:=aa aW _ _ (aa H3);refine cC _ _ hS ?_
   (try simp only[aH,aJ,aG])
   (try go_frame)
   refine aK F 12 ap hS ?_
   (try simp only[aH,aJ,aG])
   (try go_frame)
   obtain⟨W4,nF⟩:∃W4,W4=(W3).setCell ⟨w.heap.size+1+1,19,none⟩ (.slice S.ps.xa S.ps.l.length S.ps.cap):=⟨_,rfl⟩;have H4:Hid (BS w W4 S {{{S.u0 with nm:=S.nm} with en:=S.en} with ps:=S.ps}):=ab (by rw[nF];exact(aa H3).ps)
   have ff:=fun k=>cN (W3) (w.heap.size+1+1) k _ _ (aa H3).out
   have au:=(aa H3).lt;have vA:=ab nF;clear nF;have o19:(W3).cell? ⟨w.heap.size+1+1,19,none⟩=some (.slice none 0 0):=aY (aa H3).out rfl;refine ce 13 (fun K4 bw=> ?_)
   go_simp;rw[show (W3).setCell ⟨w.heap.size+1+1,19,none⟩ (.slice S.ps.xa S.ps.l.length S.ps.cap)=W4 from (aa vA).symm];clear ff au vA H3 o19;clear hS;have hS:S0 W4:=aa aW _ _ (aa H4);refine bw _ _ hS ?_
   (try simp only[aH,aJ,aG])
   (try go_frame)
   refine aK F 14 ap hS ?_
   (try simp only[aH,aJ,aG])
   (try go_frame)
   obtain⟨W5,ri⟩:∃W5,W5=(W4).setCell ⟨w.heap.size+1+1,20,none⟩ (.slice S.ls.xa S.ls.l.length S.ls.cap):=⟨_,rfl⟩;have H5:Hid (BS w W5 S {{{{S.u0 with nm:=S.nm} with en:=S.en} with ps:=S.ps} with ls:=S.ls}):=ab (by rw[ri];exact(aa H4).ls)
   have ff:=fun k=>cN (W4) (w.heap.size+1+1) k _ _ (aa H4).out
   have au:=(aa H4).lt;have pm:=ab ri;clear ri;have o20:(W4).cell? ⟨w.heap.size+1+1,20,none⟩=some (.slice none 0 0):=aY (aa H4).out rfl;refine gy (by kernel_rfl) rfl (by kernel_rfl) (fun K5 dy=> ?_)
   go_simp;rw[show (W4).setCell ⟨w.heap.size+1+1,20,none⟩ (.slice S.ls.xa S.ls.l.length S.ls.cap)=W5 from (aa pm).symm];clear ff au pm H4 o20;refine dy _ _ ?_
   (try simp only[aH,aJ,aG])
   (try go_frame)
   clear eD cC bw dy K2 K3 K4 K5 F hS ap aW S0;clear e1;have e1:W5.cell? ⟨w.heap.size,1,none⟩=some (.int .i64 7):=by have h:=(aa H5).cell (i:=1) (x:=.int .i64 S.k) rfl;rw[aa eU] at h;exact h
   obtain⟨O,hO⟩:∃O,O=({{{{S.u0 with nm:=S.nm} with en:=S.en} with ps:=S.ps} with ls:=S.ls}:SV).cells:=⟨_,rfl⟩
   have HOE:=ab hO;have fP:Hid (O.size=24):=ab (by rw[hO];rfl)
   have pz:Hid (O.all (·.oneCell')=true):=ab (by rw[hO];exact SV.cells_one _)
   have HO:Hid ((W5).heap[w.heap.size+1+1]? =some (.cells O 30 (0,0))):=ab (by rw[hO];exact(aa H5).out)
   have HX:Hid ((W5).heap[w.heap.size+1]? =some (.cells cc.cells 30 (0,0))):=ab ((aa H5).res);have dY:Hid (sZ w S (.returned (.agg O)) (W5.setRow (w.heap.size+1) O)):=ab (by rw[hO];exact(aa H5).fin (by
    unfold SV.can SV.bst SV.u0;rw[aa eU];simp only[vZ];rfl))
   clear hO;go_wp2_with (first
    | (refine io rfl 30 _ rfl (w.heap.size+1+1) rfl 30 O (0,0) _ (by with_reducible exact aa HO) underlying30 rfl (de.trans (by rw[aa fP])) ?_)
    | (refine bh rfl 30 _ _ rfl (w.heap.size+1) O rfl rfl 30 cc.cells (by with_reducible exact aa HX) (de.trans (by rw[aa fP])) (by rw[aa fP];rfl) (aa pz) ?_)
    | fail)
   (try simp only[Exit.inBlock,Exit.then])
   refine bK (dM rfl _ _ (w.heap.size+1) 30 O (0,0) _ rfl (bW _ _ _ _ _ _ (aa HX)) underlying30 rfl (de.trans (by rw[aa fP]))) rfl ?_
   exact aa dY
open Go.RowKit
theorem Hm (s:ByteArray) (j:Nat) (h:j < s.size) (W:World):(Instr.index 9 (.string s) (.int .i64 (j:Int))).run prog W=.ok (.int .u8 (aj s j:Int)) W:=by
 rw[←mw s j h];have hu:=underlying9;simp[Instr.index,underlying,hu,asIntOf,Sem.run_bind,Result.andThen,h]
theorem Jn (V:PV) (P:List SV) (t r:ByteArray) (w:World) (hV:PIn w V P) (ht:t.size≤maxLen) (hr:r.size≤maxLen) (hP:PrW w) (hW:SyW w):Calls prog 4 #[V.v P.length,.string t,.string r] w fun e w'=>e=.returned (.bool true)∧Below w.heap.size w w':=by
 obtain⟨m,hm⟩:=hP.env.lim;have hmx:=hV.max;have iT:=hV.cap;unfold maxLen at hmx;have HAL:=ab (Ig w hW m hm);have oB:=ab (fun (X:World) (h:Below w.heap.size w X)=>Jf V P X (hP.later h) (hV.later h))
 have kg:=ab (fun (s:ByteArray) (hs:s.size≤maxLen) (X:World) (h:Below w.heap.size w X)=>Jg s X hs (hW.later h) m (av h hm))
 have rF:=ab (fun (X:World) (h:Below w.heap.size w X) (k:Nat) (S:SV) (hS:P[k]? =some S) (h0:(gA S).2=0)=>bs_any S X ((hV.later h).row k S hS).2 (EW ((hV.later h).row k S hS).2 h0).1)
 have HVV:=ab (fun (X:World) (h:Below w.heap.size w X)=>hV.later h)
 have sE:Hid (∀S ∈ P,(gA S).2=0→jb (gA S).1=.ok (some S.bst)):=ab (fun S hS h0=>by
  obtain⟨i,hi⟩:=List.getElem?_of_mem hS;exact(EW (hV.row i S hi).2 h0).2.2)
 have HTS:=ab ht;have HRS:=ab hr;clear hV ht hr hP hW hm;unfold PV.v at oB ⊢;go_enter func4,ntmps4;go_wp2_with fail;refine(aa HAL).mono ?_;rintro e w1 ⟨rfl,hb1⟩;have aX:=ab hb1;clear hb1 HAL;go_wp2_with fail;refine(aa oB w1 (aa aX)).mono ?_;rintro e w2 ⟨hb2,a,er,i,rfl,hz⟩;have HZ:=ab hz;unfold cY;obtain⟨w3,so⟩:∃w3,w3=w2.alloc (.cells #[.int .i64 er,.int .i64 (i:Int)] 36):=⟨_,rfl⟩;have hb3:Below w2.heap.size w2 w3:=by rw[so];exact ba _
 have pF:Hid (w3.heap[w2.heap.size]? =some (.cells #[.int .i64 er,.int .i64 (i:Int)] 36 (0,0))):=ab (by rw[so];exact ax rfl)
 have ao:=ab (hJ (hJ (aa aX) hb2) hb3);have dG:=ab so;clear hb2 hz so hb3;go_upto_region 4 with fail
 rw[show w2.alloc (.cells #[.int .i64 er,.int .i64 (i:Int)] 36)=w3 from (aa dG).symm];obtain⟨f0, -⟩:=jX (aa pF);go_upto_if 25 with fail
 go_cut [] from 7 (fun wx=>Hid (Below w.heap.size w wx))
 case first=>
  by_cases he:er=0
  ·have q0:(er==0)=true:=bt he
   obtain⟨ha,gM,GL,h65⟩:=aa HZ he;have HALL:=ab gM;have dT:=ab (Jy gM (fun S hS=>aa sE S hS (gM S hS)) GL h65)
   subst ha;have ay:(k9 (iM P)).size≤maxLen:=by show (iM P).toArray.size≤_;rw[lJ];unfold maxLen;omega
   have kO:=ab ay;clear he HZ gM GL h65 oB sE ay;generalize k9 (iM P)=sb at *;go_wp2_with fail;refine(aa kg sb (aa kO) w3 (aa ao)).mono ?_;rintro e w4 ⟨hb4,hc⟩;rcases hc with ⟨er2,i2,hE, -, -⟩ | ⟨V2,P2,hE,rfl,j6⟩
   ·rw[aa dT] at hE;cases hE
   ·have j6:=j6 _ (aw _) fun _ _ _=>rfl
    have fO:P2.map SV.can=P.map SV.bst:=by rw[aa dT] at hE;injection hE with hE;exact hE.symm
    have bU:P2.length=P.length:=by rw[←oT (f:=SV.can),fO,oT]
    have oY:=j6.max;have jQ:=j6.cap;rw[bU] at jQ;unfold maxLen at oY;have ej:=ab fO;have iJ:=ab bU;obtain⟨w5,tG⟩:∃w5,w5=w4.alloc (.cells #[.int .i64 0,.int .i64 0] 36):=⟨_,rfl⟩;have hb5:Below w4.heap.size w4 w5:=by rw[tG];exact ba _
    have HF5:Hid (w5.heap[w4.heap.size]? =some (.cells #[.int .i64 0,.int .i64 0] 36 (0,0))):=ab (by rw[tG];exact ax rfl)
    have dJ:=ab (hJ (hJ (aa ao) hb4) hb5);have dz:=ab (j6.later hb5);have pm:=ab tG;unfold PV.v cY;rw[bU];clear hb4 hE j6 fO bU tG hb5 dT kO;go_upto_region 6 with fail
    (try rw[show w4.alloc (.cells #[.int .i64 0,.int .i64 0] 36)=w5 from (aa pm).symm])
    obtain⟨f5, -⟩:=jX (aa HF5);go_wp2_with fail;clear f5 f0;go_loopw [43] (fun x wr=>∃k:Nat,k≤P.length∧x=.int .i64 (k:Int)∧Hid (Below w5.heap.size w5 wr)) (fun x _=>P.length - (intOf x).toNat)
    case atStart=>exact⟨0,cU _,rfl,aV _ _⟩
    case round=>
     obtain⟨k,hk,rfl,ks⟩:=hrel;have lu:=ab (hJ (aa dJ) (aa ks));rcases cG k P.length with au | gD
     ·have g1:(k:Int) < (P.length:Int):=by omega
      have hlq:k < P2.length:=by rw[aa iJ];exact au
      obtain⟨A,hA⟩:∃A,P[k]? =some A:=⟨P[k],gT _⟩;obtain⟨D,hD⟩:∃D,P2[k]? =some D:=⟨P2[k],gT _⟩;have hcd:D.can=A.bst:=by
       have e:=aD (fun l=>l[k]?) (aa ej)
       simp only[qb,hA,hD,Option.map_some,uK] at e;exact e
      have iR:=aa HVV wr (aa lu);have tH:=(aa dz).later (aa ks);have HBC:=ab (fun W (q:Below wr.heap.size wr W)=>aa rF W (aq (aa lu) q) k A hA (aa HALL A (oS hA)))
      have sF:=ab (fun (U:SV) W (hU:U.In W) (hc:U.can=A.bst) (q:Below wr.heap.size wr W)=>Dp D U W ((tH.later q).row k D hD).2 hU (hcd.trans hc.symm))
      unfold SV.v at sF HBC;have vm:=iR.at_ (by omega)
      have hau:=tH.at_ (by omega)
      have yR:=yw (g:=V.gb) (o:=V.ob) (cap:=V.cap) (n:=P.length) (i:=k) au;have yS:=yw (g:=V2.gb) (o:=V2.ob) (cap:=V2.cap) (n:=P.length) (i:=k) au;rw[←vm] at yR;rw[←hau] at yS;have mf:=(iR.row k A hA).1;have hRB:=(tH.row k D hD).1;have pg:A.cells.toList.length=24:=xe A;have hdb:D.cells.toList.length=24:=xe D;obtain⟨LA,hLA⟩:∃L,L=A.cells.toList:=⟨_,rfl⟩;obtain⟨LB,hLB⟩:∃L,L=D.cells.toList:=⟨_,rfl⟩;rw[show A.cells=LA.toArray by rw[hLA]] at HBC
      rw[show D.cells=LB.toArray by rw[hLB]] at sF
      rw[←hLA] at mf pg;rw[←hLB] at hRB hdb;have oC:=ab (fun W (q:Below wr.heap.size wr W)=>(fun j v hj=>av q (mf j v hj):W.rangeAt V.gb (V.ob+k * 24) LA))
      have HRB:=ab (fun W (q:Below wr.heap.size wr W)=>(fun j v hj=>av q (hRB j v hj):W.rangeAt V2.gb (V2.ob+k * 24) LB))
      clear hA hD hcd iR tH vm hau mf hRB hLA hLB;go_wp2_with fail;have hS:Below wr.heap.size wr wr.drew:=(aV _ _).drew;refine gt 10 (fun W=>Below wr.heap.size wr W) ?_
      intro F;refine pP F 0 hS ?_
      (try simp only[aH,aG])
      (try go_frame)
      refine pP F 1 hS ?_
      (try simp only[aH,aJ,aG])
      (try go_frame)
      refine pP F 2 hS ?_
      (try simp only[aH,aJ,aG])
      (try go_frame)
      refine Ag F 3 hS V2.gb (V2.ob+k * 24) LB hdb (fun W q=>aa HRB W q) ?_
      (try simp only[aH,aJ,aG])
      (try go_frame)
      refine pP F 4 hS ?_
      (try simp only[aH,aJ,aG])
      (try go_frame)
      refine pP F 5 hS ?_
      (try simp only[aH,aJ,aG])
      (try go_frame)
      refine pP F 6 hS ?_
      (try simp only[aH,aJ,aG])
      (try go_frame)
      refine Ag F 7 hS V.gb (V.ob+k * 24) LA pg (fun W q=>aa oC W q) ?_
      (try simp only[aH,aJ,aG])
      (try go_frame)
      refine ce 8 (fun K3 cC=> ?_)
      go_simp;refine(aa HBC _ hS).mono ?_;rintro e w6 ⟨⟨U,rfl,hUc,hUi⟩,hb6⟩;have hS6:=aq hS hb6;refine cC _ _ hS6 ?_;refine ce 9 (fun K4 bw=> ?_)
      have HSU:=ab (aa sF U w6 hUi hUc hS6);unfold SV.v at HSU ⊢;go_simp;refine(aa HSU).mono ?_;rintro e w7 ⟨rfl,hb7⟩;have hS7:=aq hS6 hb7;refine bw _ _ hS7 ?_;refine gy (by kernel_rfl) rfl (by kernel_rfl) (fun K5 dy=> ?_)
      go_simp;refine dy _ _ ?_
      (try simp only[aH,aJ,aG])
      (try go_frame)
      have HZ:=ab (aq (aa ks) hS7);clear dy bw cC F hS hS6 hS7 hb6 hb7 yR yS hUc hUi HSU;go_wp2_with fail;exact⟨⟨k+1,by omega,by go_num,aa HZ⟩,by simp[intOf];omega⟩
     ·obtain rfl:k=P.length:=by omega
      go_wp2_with fail;go_meet
      case rel=>exact aa lu
  ·have q0:(er==0)=false:=bn he
   clear he HZ;go_wp2_with fail;go_meet
   case rel=>exact aa ao
 case rest=>
  have HB:=hcut;clear hcut HZ pF dG ao aX oB sE rF HVV f0;go_wp2_with fail;refine(aa kg t (aa HTS) wc (aa HB)).mono ?_;rintro e w4 ⟨hb4,hc⟩;rcases hc with ⟨er2,i2,hE,bi,rfl⟩ | ⟨V2,P2,hE,rfl,j6⟩
  ·have e1:(er2 !=0)=true:=by rw[bne,bn bi];rfl
   have dJ:=ab ((aq (aa HB) hb4).alloc (aq (aa HB) hb4).size (.cells #[.int .i64 er2,.int .i64 (i2:Int)] 36));unfold cY;clear bi hE hb4 kg;go_wp2_with fail;go_ret;exact⟨rfl,aa dJ⟩
  ·have j6:=j6 _ (aw _) fun _ _ _=>rfl
   have qz:=ab j6;have HE:=ab hE;obtain⟨w5,tG⟩:∃w5,w5=w4.alloc (.cells #[.int .i64 0,.int .i64 0] 36):=⟨_,rfl⟩;have hb5:Below w4.heap.size w4 w5:=by rw[tG];exact ba _
   have HF5:Hid (w5.heap[w4.heap.size]? =some (.cells #[.int .i64 0,.int .i64 0] 36 (0,0))):=ab (by rw[tG];exact ax rfl)
   have dJ:=ab (hJ (hJ (aa HB) hb4) hb5);have pm:=ab tG;have dW:=ab (show w.heap.size≤w4.heap.size from (hJ (aa HB) hb4).size);have oY:=j6.max;have jQ:=j6.cap;have dz:=ab (j6.later hb5);unfold maxLen at oY;unfold PV.v cY;have HB45:=ab hb5;clear hb4 hE j6 tG hb5;go_upto_region 15 with fail
   (try rw[show w4.alloc (.cells #[.int .i64 0,.int .i64 0] 36)=w5 from (aa pm).symm])
   obtain⟨f5, -⟩:=jX (aa HF5);have hrs:=aa HRS;unfold maxLen at hrs
   by_cases hz:r.size≤1000
   ·have q1:¬(1000:Int) < (r.size:Int):=by omega
    have HZR:=ab hz;have tL:=fun W=>run_bytes_of_string (P:=prog) W 9 48 5 r underlying9 underlying48 underlying5
    clear hz;go_wp2_with fail;clear tL f5;generalize grownCap w5 r.size 0 5=G;obtain⟨w6,hw6⟩:∃w6,w6=(w5.alloc (.cells (bytesRow r G) 5 ((bytesRow r G).size,(bytesRow r G).size+1))).drew:=⟨_,rfl⟩;have hb6:Below w5.heap.size w5 w6:=by rw[hw6];exact(ba _).drew
    rw[←hw6];have HF6:=ab (an (aa HF5) hb6);have fq:=ab (hJ (aa dJ) hb6);have HB46:=ab (hJ (aa HB45) hb6);have HL46:=ab (gL (bC.1 (aa HF5)).1 hb6.size);clear hw6 hb6 HF5 dJ dz pm;go_loopw [74] (fun x wr=>∃k:Nat,k≤r.size∧x=.int .i64 (k:Int)∧wr=w6∧Hid (∀j,j < k→aj r j≠10)) (fun x _=>r.size - (intOf x).toNat)
    case atStart=>exact⟨0,cU _,rfl,rfl,fun j h=>absurd h (Nat.not_lt_zero _)⟩
    case round=>
     obtain⟨k,hk,rfl,rfl,HN⟩:=hrel;rcases cG k r.size with au | gD
     ·have g1:(k:Int) < (r.size:Int):=by omega
      have jA:=Hm r k au;have kR:=ab (fun (h:aj r k≠10) j (hj:j < k+1)=>by
       rcases cG j k with h1 | h1
       ·exact aa HN j h1
       ·rw[show j=k by omega];exact h)
      generalize aj r k=b at *
      by_cases hb:b=10
      ·have q2:((b:Int)==10)=true:=by rw[se];omega
       clear hb kR;go_wp2_with fail;go_ret;exact⟨rfl,aa fq⟩
      ·have q2:((b:Int)==10)=false:=by rw[nc];omega
       have HZ:=ab (aa kR hb);clear hb kR;go_wp2_with fail;exact⟨⟨k+1,by omega,by go_num,by trivial,aa HZ⟩,by simp[intOf];omega⟩
     ·obtain rfl:k=r.size:=by omega
      have vg:(10:UInt8) ∉ r.data.toList:=fun q=>by
       obtain⟨j,hj⟩:=List.getElem?_of_mem q;have ss:j < r.size:=by rw[tq];exact(mG.1 hj).1
       exact aa HN j ss (by unfold aj;rw[yF,hj];rfl)
      have qx:=ab (IA (aa HE) vg (aa HZR));have oX:t.size≤65536:=Classical.byContradiction fun q=>by
       have h:=aa HE;unfold mz at h;rw[af (by omega)] at h
       cases h
      have hzr:=aa HZR;have HRU:=ab (aa kg (m6 r t) (by rw[DQ];unfold maxLen;omega) wr (aa fq))
      unfold m6 at HRU;clear vg HN HE HZR kg;go_wp2_with fail;refine(aa HRU).mono ?_;rintro e w7 ⟨hb7,hc⟩;have mT:=ab (an (aa HF6) hb7);have jk:=ab (hJ (aa fq) hb7);have HB47:=ab (hJ (aa HB46) hb7);rcases hc with ⟨er3,i3,hE,bi,rfl⟩ | ⟨V3,P3,hE,rfl,j6⟩
      ·have vp:(er3=4∧65536 < t.size+r.size+2)∨er3=5:=by
        rcases aa qx with ⟨h,h1⟩ | h | h
        ·unfold m6 at h;rw[hE] at h;injection h with h;exact .inl ⟨h,h1⟩
        ·unfold m6 at h;rw[hE] at h;injection h with h;exact .inr h
        ·unfold m6 at h;rw[hE] at h;cases h
       unfold cY;clear hb7 hE bi qx HRU;obtain⟨w8,qm⟩:∃w8,w8=w7.setRow w4.heap.size #[.int .i64 er3,.int .i64 (i3:Int)]:=⟨_,rfl⟩;have rC:Hid (w8.heap[w4.heap.size]? =some (.cells #[.int .i64 er3,.int .i64 (i3:Int)] 36 (0,0))):=ab (by rw[qm];exact bW _ _ _ _ _ _ (aa mT))
       have oH:Hid (Below w.heap.size w w8):=ab (by rw[qm];exact ed (aa jk) _ (aa dW) _)
       have HW8:=ab qm;clear qm;go_upto_region 24 with (first
        | (refine bh rfl 36 _ _ rfl w4.heap.size #[.int .i64 er3,.int .i64 (i3:Int)] rfl rfl 36 #[.int .i64 0,.int .i64 0] (by with_reducible exact aa mT) fh rfl (by simp[Value.oneCell']) ?_)
        | fail)
       rw[show w7.setRow w4.heap.size #[.int .i64 er3,.int .i64 (i3:Int)]=w8 from (aa HW8).symm];obtain⟨f8, -⟩:=jX (aa rC);rcases vp with ⟨rfl,h4⟩ | rfl
       ·have q4:(65536:Int) < (t.size:Int)+(r.size:Int)+2:=by omega
        clear h4;go_wp2_with fail;go_ret;exact⟨rfl,aa oH⟩
       ·go_wp2_with fail
        go_ret;exact⟨rfl,aa oH⟩
      ·have fO:P2.map SV.can=P3.map SV.can:=by
        rcases aa qx with ⟨h, -⟩ | h | h
        ·unfold m6 at h;rw[hE] at h;cases h
        ·unfold m6 at h;rw[hE] at h;cases h
        ·unfold m6 at h;rw[hE] at h;injection h with h;exact h.symm
       have ej:=ab fO;have gq:=ab j6;unfold cY;clear hb7 hE fO j6 qx HRU;obtain⟨w8,qm⟩:∃w8,w8=w7.setRow w4.heap.size #[.int .i64 0,.int .i64 0]:=⟨_,rfl⟩;have rC:Hid (w8.heap[w4.heap.size]? =some (.cells #[.int .i64 0,.int .i64 0] 36 (0,0))):=ab (by rw[qm];exact bW _ _ _ _ _ _ (aa mT))
       have oH:Hid (Below w.heap.size w w8):=ab (by rw[qm];exact ed (aa jk) _ (aa dW) _)
       have sF:Hid (Calls prog 14 #[V2.v P2.length,V3.v P3.length] w8 fun e w'=>e=.returned (.bool true)∧Below w8.heap.size w8 w'):=ab (Hl V2 V3 P2 P3 w8 ((aa qz).later (by rw[qm];exact ed (aa HB47) _ (aw _) _)) (aa gq w8 (by rw[qm];simp) fun i h1 _=>by rw[qm];exact eZ _ _ _ _ (by have:=aa HL46;omega)) (aa ej))
       have HW8:=ab qm;unfold PV.v at sF ⊢;clear qm ej gq;go_upto_region 24 with (first
        | (refine bh rfl 36 _ _ rfl w4.heap.size #[.int .i64 0,.int .i64 0] rfl rfl 36 #[.int .i64 0,.int .i64 0] (by with_reducible exact aa mT) fh rfl (by simp[Value.oneCell']) ?_)
        | fail)
       rw[show w7.setRow w4.heap.size #[.int .i64 0,.int .i64 0]=w8 from (aa HW8).symm];obtain⟨f8, -⟩:=jX (aa rC);go_wp2_with fail;refine(aa sF).mono ?_;rintro e w9 ⟨rfl,hb9⟩;go_wp2_with fail;go_ret;exact⟨rfl,hJ (aa oH) hb9⟩
   ·have q1:(1000:Int) < (r.size:Int):=by omega
    clear hz;go_wp2_with fail;go_ret;exact⟨rfl,aa dJ⟩
open Go.ChangeShapes Go.WideShapes Go.ChangeAt Go.RowKit Go.Deep
theorem open_argStmts {H:Type} {enc:TypeId × Value→H} {W:World} {base:Nat} {v:Value} {d:DataW H} {p:List MemPlace}
  (hval:Value.okWide prog W .any base 43 v) (h:DataW.Trod enc prog W 0 (fun _=>true) true 43 v d p):∃(V:PV) (P:List SV),v=V.v P.length∧PIn W V P:=by
 obtain⟨a0,n0,c0,rfl⟩:=okWide_slice underlying43 hval;obtain⟨fuel,hf⟩:=h;rcases open_slice underlying43 (show DataW.trod enc prog W 0 (fun _=>true) true fuel 43 [.slice a0 n0 c0]=some (d,p) from hf) with ⟨hc, -⟩ | ⟨a,len,cap,mm,q,D,Pl,hc,_,vh,vj,qn, -,gM⟩
 ·simp only[mH,mI] at hc
  rw[hc];exact⟨⟨none,0,0,0⟩,[],rfl,aw _,cU _,fun h=>absurd h (wu 0),fun i S h=>by simp at h⟩
 ·simp only[mH,mI] at hc
  rw[hc];simp only[if_true] at qn;rw[Ep] at gM;have gE:∀i,i < len→∃S:SV,S.In W∧W.cells? 0 (a.add (i * 24)) 24=some S.cells.toList:=by
   intro i hi;obtain⟨cs',h1,h2⟩:=gM i (by omega)
   obtain⟨S,hS,aS⟩:=JD h2;exact⟨S,hS,by rw[h1,aS]⟩
  obtain⟨b,o,spot⟩:=a;have ra:0 < len→spot=none:=fun hp=>by
   obtain⟨T, -,hc⟩:=gE 0 hp;obtain⟨-,bU,nj⟩:=wt hc
   simpa [Addr.add] using World.cell?_spot (nj 0 (by decide))
  haveI:Inhabited SV:=⟨⟨ByteArray.empty,0,PT.nul,PT.nul,PT.nul,ByteArray.empty,ByteArray.empty,⟨none,0,0,0,[]⟩,⟨none,0,0,0,[]⟩,ByteArray.empty,ByteArray.empty,ByteArray.empty⟩⟩
  obtain⟨F,hF⟩:=choose_lt (α:=SV) (p:=fun i S=>S.In W∧W.cells? 0 ((⟨b,o,spot⟩:Addr).add (i * 24)) 24=some S.cells.toList) gE
  refine⟨⟨some ⟨b,o,spot⟩,b,o,cap⟩,(List.range len).map F,by unfold PV.v;simp,by simpa using vh,by simpa using vj,fun hp=>by rw[ra (by simpa using hp)],fun i S hS=> ?_⟩
  rw[qb] at hS;rcases cG i len with hi | hi
  ·rw[List.getElem?_range hi] at hS
   obtain rfl:=(lK hS).symm;obtain⟨hs,hc⟩:=hF i hi;obtain⟨-,bU,nj⟩:=wt hc;obtain rfl:=ra (by omega)
   refine⟨fun j u hj=> ?_,hs⟩
   have ss:j < (F i).cells.toList.length:=(mG.1 hj).1;have:=nj j (by first | exact ss | omega)
   rw[lL,lL] at this;rw[this];exact hj
  ·rw[wq (by simpa using hi)] at hS
   cases hS
theorem syntaxShows_walk (V:PV) (P:List SV) (t r:ByteArray) (w:World) (hV:PIn w V P) (ht:t.size≤maxLen) (hr:r.size≤maxLen) (h:laidMetH prog Rows.syntaxShowsRow.laid w) (hm:∃m,w.cell? ⟨2,0,none⟩=some (.int .i64 m)):Calls prog 4 #[V.v P.length,.string t,.string r] w fun e w'=>e=.returned (.bool true)∧Below w.heap.size w w':=
 Jn V P t r w hV ht hr (Ex (show laidMetH prog Rows.syntaxTurnsRow.laid w from h) hm).1 (Ex (show laidMetH prog Rows.syntaxTurnsRow.laid w from h) hm).2
end Go.Proofs.YtlmnjbipfacniaaGreatDoor
