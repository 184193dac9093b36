/- SyntaxTurns' walk: what is written is read. SyntaxTurns' wal -/
import Derived.Test.YtlmnjbipfacniaaGreatDoorLwPlM
import Derived.Test.YtlmnjbipfacniaaGreatDoorRtSameM
import Derived.Test.YtlmnjbipfacniaaGreatDoorLwStAM
import Derived.Test.YtlmnjbipfacniaaGreatDoorRdLM
import Derived.Test.YtlmnjbipfacniaaGreatDoorOpenPat6P
import Derived.Stop.LaidErr
set_option maxRecDepth 100000
set_option maxHeartbeats 4000000
namespace Go.Proofs.YtlmnjbipfacniaaGreatDoor
open Go.Proofs.Tryz
open Go.RowKit
theorem KP (S:SV) (t:ByteArray) (w:World) (dx:S.In w) (ht:t.size≤maxLen) (hP:PrW w) (hW:SyW w) (hq:(iy S).2=0):Calls prog 3 #[S.v,.string t] w fun e w'=>e=.returned (.bool true)∧Below w.heap.size w w':=by
 obtain⟨m,hm⟩:=hP.env.lim;obtain⟨C,hC⟩:∃C,C=S.cells:=⟨_,rfl⟩;have dc:S.v=.agg C:=by rw[hC];rfl
 have vL:Hid (C.size=24):=ab (by rw[hC];rfl)
 have dr:Below w.heap.size w (w.alloc (.cells C 30)):=(aW w.heap.size w).alloc (ax _) _;have HAL:=ab (Dg (w.alloc (.cells C 30)) (hW.later dr) m (av dr hm));have tY:=ab (fun (X:World) (h:Below w.heap.size w X)=>show Calls prog 7 #[.agg C] X fun e w'=>e=.returned (iW S)∧Below X.heap.size X w' from dc▸zh S X (hP.later h) (dx.later h))
 have mo:=ab (fun (s:ByteArray) (hs:s.size≤maxLen) (X:World) (h:Below w.heap.size w X)=>A9 s X hs (hW.later h) m (av h hm))
 have tX:=ab (fun (U:SV) (D:Array Value) (hD:D=U.cells) (X:World) (h:Below w.heap.size w X) (hU:U.In X)=>show Calls prog 7 #[.agg D] X fun e w'=>e=.returned (iW U)∧Below X.heap.size X w' from (show U.v=.agg D by rw[hD];rfl)▸zh U X (hP.later h) hU)
 have HWU:=ab (fun (U:SV) (D:Array Value) (hD:D=U.cells) (X:World) (h:Below w.heap.size w X) (hU:U.In X)=>show Calls prog 11 #[.agg D] X fun e w'=>e=.returned (.int .i64 U.wrong)∧Below X.heap.size X w' from (show U.v=.agg D by rw[hD];rfl)▸Bm U X hU (hW.later h).shx (hW.later h).sh)
 have HTS:=ab ht;have lr:Hid ((iy S).1.size≤maxLen∧mC (iy S).1=.ok (some S.bst)):=ab ((zU dx hq).2);have rl:=ab (fun (X:World) (h:Below w.heap.size w X)=>show Calls prog 10 #[.agg C] X (rB X S) from dc▸bs_any S X (dx.later h) (zU dx hq).1)
 have bq:=ab (aw (w:=w) (o:=.cells C 30) rfl);have rj:=ab dr;rw[dc];clear dr dx ht hP hW hm hC dc;go_enter func3,ntmps3;go_wp2_with fail;refine(aa HAL).mono ?_;rintro e w1 ⟨rfl,hb1⟩;have dy:=ab (ap (aa rj) hb1);have rV:=ab (am (aa bq) hb1);clear hb1 HAL bq;go_wp2_with (first
  | (refine gG rfl 30 _ rfl w.heap.size rfl 30 C (0,0) _ (by with_reducible exact aa rV) underlying30 rfl (cn.trans (by rw[aa vL])) ?_)
  | fail)
 refine(aa tY w1 (aa dy)).mono ?_;rintro e w2 ⟨rfl,hb2⟩;have dY:=ab (ap (aa dy) hb2);have cR:=ab (am (aa rV) hb2);clear hb2 tY dy rV rj;unfold iW;rw[hq];generalize (iy S).1=sa at *;clear hq;go_wp2_with fail;refine(aa mo sa (aa lr).1 w2 (aa dY)).mono ?_;rintro e w3 ⟨hb3, -, -,gi⟩;obtain⟨U,rfl,hU,hL⟩:=gi _ (aa lr).2;obtain⟨D,hD⟩:∃D,D=U.cells:=⟨_,rfl⟩;have dL:Hid (D.size=24):=ab (by rw[hD];rfl)
 have cK:Hid (D.all (·.oneCell')=true):=ab (by rw[hD];exact SV.cells_one _)
 have bj:=ab (ap (aa dY) hb3);have cY:=ab (am (aa cR) hb3);have eE:=ab (fun (X:World) (h:Below w3.heap.size w3 X) (B:SV) (hB:B.In X) (hc:B.can=S.bst)=>show Calls prog 9 #[.agg D,B.v] X fun e w'=>e=.returned (.bool true)∧Below X.heap.size X w' from (show U.v=.agg D by rw[hD];rfl)▸Bc U B X (hL.here.later h) hB (by rw[hU,hc]))
 rw[show U.v=.agg D by rw[hD];rfl]
 unfold du;clear gi hU hL hD hb3 dY cR lr;have fq:Hid (((w3.alloc (.cells Z24 30)).alloc (.cells #[.int .i64 0,.int .i64 0] 36)).heap[w3.heap.size]? =some (.cells bh.cells 30 (0,0))):=ab (bL (by simp) (aw rfl))
 have fd:Hid ((((w3.alloc (.cells Z24 30)).alloc (.cells #[.int .i64 0,.int .i64 0] 36)).setRow w3.heap.size D).heap[w3.heap.size+1]? =some (.cells #[.int .i64 0,.int .i64 0] 36 (0,0))):=ab ((dH _ _ _ _ (by omega)).trans (aw (by simp)))
 obtain⟨Z2,ep⟩:∃W,W=qx w3 D 0 0:=⟨_,rfl⟩;have gN:=ab (uL w3 D 0 0);rw[←ep] at gN;have bi:=ab ep;clear ep;go_upto_region 6 with (first
  | (refine aX rfl 30 _ _ rfl w3.heap.size D rfl rfl 30 bh.cells (by with_reducible exact aa fq) (cn.trans (by rw[aa dL])) (by rw[aa dL];rfl) (aa cK) ?_)
  | (refine aX rfl 36 _ _ rfl (w3.heap.size+1) #[.int .i64 0,.int .i64 0] rfl rfl 36 #[.int .i64 0,.int .i64 0] (by with_reducible exact aa fd) fy rfl (by simp[Value.oneCell']) ?_)
  | fail)
 rw[show ((((w3.alloc (.cells Z24 30)).alloc (.cells #[.int .i64 0,.int .i64 0] 36)).setRow w3.heap.size D).setRow (w3.heap.size+1) #[.int .i64 0,.int .i64 0])=Z2 from (aa bi).symm];clear fq fd bi;obtain⟨gJ,lj,iF⟩:=aa gN;have j2:=am (aa cY) gJ;obtain⟨S0,aO⟩:∃S0:World→Prop,S0=fun w'=>w'.cell? ⟨w3.heap.size+1,0,none⟩=some (.int .i64 0)∧w'.heap[w3.heap.size]? =some (.cells D 30 (0,0))∧w'.heap[w.heap.size]? =some (.cells C 30 (0,0)):=⟨_,rfl⟩
 have aU:Hid (∀X,Below Z2.heap.size Z2 X→S0 X):=ab (fun X h=>by rw[aO];exact⟨(jj (am iF h)).1,am lj h,am j2 h⟩)
 have ao:=ab aO;have qg:=ab (ap (aa bj) gJ);have HB3Z:=ab gJ;have hS:S0 Z2.drew:=aa aU _ (aW _ _).drew;clear aO gJ lj iF j2 gN;refine gZ 13 S0 ?_;intro F;refine aK F 0 ao hS ?_
 (try simp only[aH,aG])
 (try go_frame)
 refine aK F 1 ao hS ?_
 (try simp only[aH,aP,aG])
 (try go_frame)
 refine aK F 2 ao hS ?_
 (try simp only[aH,aP,aG])
 (try go_frame)
 refine aK F 3 ao hS ?_
 (try simp only[aH,aP,aG])
 (try go_frame)
 refine aK F 4 ao hS ?_
 (try simp only[aH,aP,aG])
 (try go_frame)
 refine aK F 5 ao hS ?_
 (try simp only[aH,aP,aG])
 (try go_frame)
 refine aK F 6 ao hS ?_
 (try simp only[aH,aP,aG])
 (try go_frame)
 refine aK F 7 ao hS ?_
 (try simp only[aH,aP,aG])
 (try go_frame)
 refine Cy F (i:=8) (oi:=_) (v:=.agg D) rfl (by kernel_rfl) (by kernel_rfl) (by rfl) (fun _ _ _ h=>h) hS (Dh 30 _ rfl (by rfl) w3.heap.size rfl 30 D (0,0) _ (fun X h=>by rw[aa ao] at h;exact h.2.1) underlying30 rfl (cn.trans (by rw[aa dL]))) ?_
 (try simp only[aH,aP,aG])
 (try go_frame)
 refine Cy F (i:=9) (oi:=_) (v:=.agg C) rfl (by kernel_rfl) (by kernel_rfl) (by rfl) (fun _ _ _ h=>h) hS (Dh 30 _ rfl (by rfl) w.heap.size rfl 30 C (0,0) _ (fun X h=>by rw[aa ao] at h;exact h.2.2) underlying30 rfl (cn.trans (by rw[aa vL]))) ?_
 (try simp only[aH,aP,aG])
 (try go_frame)
 refine cg 10 (fun K2 ew=> ?_)
 rw[af (by rfl)]
 go_simp;refine(aa rl Z2.drew ((aa qg).drew)).mono ?_;rintro e w4 ⟨⟨B,rfl,hB,hBi⟩,hb4⟩;have dz:=ab ((aW Z2.heap.size Z2).drew.trans hb4);have tW:=ab (aa eE w4 (ap (aa HB3Z) (aa dz)) B hBi hB);clear hS hB hBi hb4;have hS:S0 w4:=aa aU _ (aa dz);generalize B.v=bv at *;refine ew _ _ hS ?_
 (try simp only[aH,aP,aG])
 (try go_frame)
 refine cg 11 (fun K3 cO=> ?_)
 rw[af (by rfl)]
 go_simp;refine(aa tW).mono ?_;rintro e w5 ⟨rfl,hb5⟩;have ez:=ab (ap (aa dz) hb5);have dt:=ab (ap (aa qg) (aa ez));clear hS hb5;have hS:S0 w5:=aa aU _ (aa ez);refine cO _ _ hS ?_
 (try simp only[aH,aP,aG])
 (try go_frame)
 refine aK F 12 ao hS ?_
 (try simp only[aH,aP,aG])
 (try go_frame)
 refine g5 (by kernel_rfl) rfl (by kernel_rfl) (fun K4 bH=> ?_)
 rw[af (by rfl)]
 go_simp;refine bH _ _ ?_
 (try simp only[aH,aP,aG])
 (try go_frame)
 clear ew cO bH K2 K3 K4 F hS ao aU S0 tW eE HB3Z dz ez qg bj cY rl dL cK;go_wp2_with fail;refine(aa mo t (aa HTS) w5 (aa dt)).mono ?_;rintro e y1 ⟨hb,tz,tq,gi⟩;have lO:=ab (ap (aa dt) hb)
 cases hRT:mC t with
 | error x=>
  obtain⟨er,a⟩:=x;obtain rfl:=tz er a hRT;have bo:=Gq hRT;have hne2:(er==0)=false:=bn bo;have hne3:(er !=0)=true:=by simp;exact bo
  obtain⟨Z,hZ⟩:∃Z,Z=bh.cells:=⟨_,rfl⟩;have dL:Hid (Z.size=24):=ab (by rw[hZ];rfl)
  have cK:Hid (Z.all (·.oneCell')=true):=ab (by rw[hZ];exact SV.cells_one _)
  rw[show bh.v=.agg Z by rw[hZ];rfl]
  unfold du;clear tz tq gi hRT hZ hb bo;have fq:Hid (((y1.alloc (.cells Z24 30)).alloc (.cells #[.int .i64 0,.int .i64 0] 36)).heap[y1.heap.size]? =some (.cells bh.cells 30 (0,0))):=ab (bL (by simp) (aw rfl))
  have fd:Hid ((((y1.alloc (.cells Z24 30)).alloc (.cells #[.int .i64 0,.int .i64 0] 36)).setRow y1.heap.size Z).heap[y1.heap.size+1]? =some (.cells #[.int .i64 0,.int .i64 0] 36 (0,0))):=ab ((dH _ _ _ _ (by omega)).trans (aw (by simp)))
  obtain⟨Y2,ep⟩:∃W,W=qx y1 Z er (a:Int):=⟨_,rfl⟩;have gN:=ab (uL y1 Z er (a:Int));rw[←ep] at gN;have bi:=ab ep;clear ep;go_upto_region 9 with (first
   | (refine aX rfl 30 _ _ rfl y1.heap.size Z rfl rfl 30 bh.cells (by with_reducible exact aa fq) (cn.trans (by rw[aa dL])) (by rw[aa dL];rfl) (aa cK) ?_)
   | (refine aX rfl 36 _ _ rfl (y1.heap.size+1) #[.int .i64 er,.int .i64 (a:Int)] rfl rfl 36 #[.int .i64 0,.int .i64 0] (by with_reducible exact aa fd) fy rfl (by simp[Value.oneCell']) ?_)
   | fail)
  rw[show ((((y1.alloc (.cells Z24 30)).alloc (.cells #[.int .i64 0,.int .i64 0] 36)).setRow y1.heap.size Z).setRow (y1.heap.size+1) #[.int .i64 er,.int .i64 (a:Int)])=Y2 from (aa bi).symm];clear fq fd bi;obtain⟨gJ, -,iF⟩:=aa gN;obtain⟨f0, -⟩:=jj iF;have HE:=ab (ap (aa lO) gJ);clear gJ iF gN lO;go_wp2_with fail;go_ret;exact⟨rfl,aa HE⟩
 | ok q=>
  cases q with
  | none=>
   obtain rfl:=tq hRT;obtain⟨Z,hZ⟩:∃Z,Z=bh.cells:=⟨_,rfl⟩;have dL:Hid (Z.size=24):=ab (by rw[hZ];rfl)
   have cK:Hid (Z.all (·.oneCell')=true):=ab (by rw[hZ];exact SV.cells_one _)
   rw[show bh.v=.agg Z by rw[hZ];rfl]
   unfold du;clear tz tq gi hRT hZ hb;have fq:Hid (((y1.alloc (.cells Z24 30)).alloc (.cells #[.int .i64 0,.int .i64 0] 36)).heap[y1.heap.size]? =some (.cells bh.cells 30 (0,0))):=ab (bL (by simp) (aw rfl))
   have fd:Hid ((((y1.alloc (.cells Z24 30)).alloc (.cells #[.int .i64 0,.int .i64 0] 36)).setRow y1.heap.size Z).heap[y1.heap.size+1]? =some (.cells #[.int .i64 0,.int .i64 0] 36 (0,0))):=ab ((dH _ _ _ _ (by omega)).trans (aw (by simp)))
   obtain⟨Y2,ep⟩:∃W,W=qx y1 Z 0 0:=⟨_,rfl⟩;have gN:=ab (uL y1 Z 0 0);rw[←ep] at gN;have bi:=ab ep;clear ep;go_upto_region 9 with (first
    | (refine aX rfl 30 _ _ rfl y1.heap.size Z rfl rfl 30 bh.cells (by with_reducible exact aa fq) (cn.trans (by rw[aa dL])) (by rw[aa dL];rfl) (aa cK) ?_)
    | (refine aX rfl 36 _ _ rfl (y1.heap.size+1) #[.int .i64 0,.int .i64 0] rfl rfl 36 #[.int .i64 0,.int .i64 0] (by with_reducible exact aa fd) fy rfl (by simp[Value.oneCell']) ?_)
    | fail)
   rw[show ((((y1.alloc (.cells Z24 30)).alloc (.cells #[.int .i64 0,.int .i64 0] 36)).setRow y1.heap.size Z).setRow (y1.heap.size+1) #[.int .i64 0,.int .i64 0])=Y2 from (aa bi).symm];clear fq fd bi;obtain⟨gJ, -,iF⟩:=aa gN;obtain⟨f0, -⟩:=jj iF;have HE:=ab (ap (aa lO) gJ);clear gJ iF gN lO;go_wp2_with fail;go_ret;exact⟨rfl,aa HE⟩
  | some P=>
   obtain⟨U,rfl,hU,hL⟩:=gi P hRT;obtain⟨eZ,fN⟩:=Fh hRT hU;have mg:=ab eZ;have lS:=ab (fN.trans hU.symm);have HLU:=ab hL;obtain⟨D,hD⟩:∃D,D=U.cells:=⟨_,rfl⟩;have dL:Hid (D.size=24):=ab (by rw[hD];rfl)
   have cK:Hid (D.all (·.oneCell')=true):=ab (by rw[hD];exact SV.cells_one _)
   have HD:=ab hD;have HUI:=ab hL.here;rw[show U.v=.agg D by rw[hD];rfl]
   unfold du;clear tz tq gi hRT hD hb hU hL eZ fN;have fq:Hid (((y1.alloc (.cells Z24 30)).alloc (.cells #[.int .i64 0,.int .i64 0] 36)).heap[y1.heap.size]? =some (.cells bh.cells 30 (0,0))):=ab (bL (by simp) (aw rfl))
   have fd:Hid ((((y1.alloc (.cells Z24 30)).alloc (.cells #[.int .i64 0,.int .i64 0] 36)).setRow y1.heap.size D).heap[y1.heap.size+1]? =some (.cells #[.int .i64 0,.int .i64 0] 36 (0,0))):=ab ((dH _ _ _ _ (by omega)).trans (aw (by simp)))
   obtain⟨Y2,ep⟩:∃W,W=qx y1 D 0 0:=⟨_,rfl⟩;have gN:=ab (uL y1 D 0 0);rw[←ep] at gN;have bi:=ab ep;clear ep;go_upto_region 9 with (first
    | (refine aX rfl 30 _ _ rfl y1.heap.size D rfl rfl 30 bh.cells (by with_reducible exact aa fq) (cn.trans (by rw[aa dL])) (by rw[aa dL];rfl) (aa cK) ?_)
    | (refine aX rfl 36 _ _ rfl (y1.heap.size+1) #[.int .i64 0,.int .i64 0] rfl rfl 36 #[.int .i64 0,.int .i64 0] (by with_reducible exact aa fd) fy rfl (by simp[Value.oneCell']) ?_)
    | fail)
   rw[show ((((y1.alloc (.cells Z24 30)).alloc (.cells #[.int .i64 0,.int .i64 0] 36)).setRow y1.heap.size D).setRow (y1.heap.size+1) #[.int .i64 0,.int .i64 0])=Y2 from (aa bi).symm];clear fq fd bi;obtain⟨gJ,lj,iF⟩:=aa gN;obtain⟨f0, -⟩:=jj iF;have wC:=ab ((aa HUI).later gJ);have tQ:=ab (ap (aa lO) gJ);have aS:=ab gJ;have fo:=ab lj;have ow:=ab iF;clear gJ lj iF gN HUI;go_wp2_with (first
    | (refine gG rfl 30 _ rfl y1.heap.size rfl 30 D (0,0) _ (by with_reducible exact aa fo) underlying30 rfl (cn.trans (by rw[aa dL])) ?_)
    | fail)
   refine(aa HWU U D (aa HD) Y2 (aa tQ) (aa wC)).mono ?_;rintro e y3 ⟨rfl,hb3⟩;rw[aa mg];have oS:=ab (ap (aa tQ) hb3);have bK:=ab (ap (aa aS) hb3);have HS3:=ab (am (aa fo) hb3);have ph:=ab (am (aa ow) hb3);have wB:=ab ((aa wC).later hb3);clear hb3 tQ fo ow wC f0 HWU;go_wp2_with (first
    | (refine gG rfl 30 _ rfl y1.heap.size rfl 30 D (0,0) _ (by with_reducible exact aa HS3) underlying30 rfl (cn.trans (by rw[aa dL])) ?_)
    | fail)
   refine(aa tX U D (aa HD) y3 (aa oS) (aa wB)).mono ?_;rintro e y4 ⟨rfl,hb4⟩;have qZ:=ab (ap (aa oS) hb4);have dJ:=ab (ap (aa bK) hb4);have HS4:=ab (am (aa HS3) hb4);have ub:=ab (am (aa ph) hb4);have yW:=ab ((aa wB).later hb4);clear hb4 oS HS3 ph wB tX;unfold iW
   by_cases hp:(iy U).2=0
   ·obtain⟨-,ay,hln⟩:=zU (aa yW) hp
    have HZ:=ab (And.intro ay hln);rw[hp];generalize (iy U).1=ta at *;clear hp ay hln;go_wp2_with fail;refine(aa mo ta (aa HZ).1 y4 (aa qZ)).mono ?_;rintro e y5 ⟨hb5, -, -,gi⟩;obtain⟨V,rfl,hV,hL⟩:=gi _ (aa HZ).2;have qY:=ab (ap (aa qZ) hb5);have eq:=ab (ap (aa dJ) hb5);have j3:=ab hL;have ii:Hid (y1.heap.size+1 < y4.heap.size):=ab ((bC.1 (aa ub)).1);have HS5:=ab (am (aa HS4) hb5);have HF5:=ab (am (aa ub) hb5);have jf:Hid (U.can=V.can):=ab (by rw[hV];exact(aa lS).symm)
    obtain⟨E,hE⟩:∃E,E=V.cells:=⟨_,rfl⟩;have wG:Hid (E.size=24):=ab (by rw[hE];rfl)
    have jg:Hid (E.all (·.oneCell')=true):=ab (by rw[hE];exact SV.cells_one _)
    have uc:=ab hE;have dR:Hid (y1.heap.size+1 < y5.heap.size):=ab ((bC.1 (aa HF5)).1);rw[show V.v=.agg E by rw[hE];rfl]
    unfold du;clear gi hV hL hE hb5 HS4 ub qZ yW HZ mo lS;have HN5:Hid ((y5.alloc (.cells Z24 30)).heap[y5.heap.size]? =some (.cells bh.cells 30 (0,0))):=ab (aw rfl);have jO:Hid (((y5.alloc (.cells Z24 30)).setRow y5.heap.size E).heap[y1.heap.size+1]? =some (.cells #[.int .i64 0,.int .i64 0] 36 (0,0))):=ab (by
     have hl:=aa dR;exact(dH _ _ _ _ (by omega)).trans (bL (by omega) (aa HF5)))
    obtain⟨Y6,me⟩:∃Y6,Y6=((y5.alloc (.cells Z24 30)).setRow y5.heap.size E).setRow (y1.heap.size+1) #[.int .i64 0,.int .i64 0]:=⟨_,rfl⟩;have hl:=aa dR;have kL:w.heap.size≤y1.heap.size:=(aa lO).size;have HF6:Hid (Y6.heap[y1.heap.size+1]? =some (.cells #[.int .i64 0,.int .i64 0] 36 (0,0))):=ab (by rw[me];exact cm _ _ _ _ _ _ (aa jO))
    have HE6:Hid (Y6.heap[y5.heap.size]? =some (.cells E 30 (0,0))):=ab (by rw[me];exact(dH _ _ _ _ (by omega)).trans (cm _ _ _ _ _ _ (aa HN5)))
    have dQ:Hid (Y6.heap[y1.heap.size]? =some (.cells D 30 (0,0))):=ab (by rw[me];exact(dH _ _ _ _ (by omega)).trans ((dH _ _ _ _ (by omega)).trans (bL (by omega) (aa HS5))))
    have HY6:Hid (Below w.heap.size w Y6):=ab (by rw[me];exact eL (eL ((aa qY).alloc (aa qY).size _) _ (by omega) _) _ (by omega) _)
    have CS:=ab (fun (hUI:U.In Y6) (hVI:V.In Y6)=>show Calls prog 9 #[.agg D,.agg E] Y6 fun e w'=>e=.returned (.bool true)∧Below Y6.heap.size Y6 w' from (show U.v=.agg D by rw[aa HD];rfl)▸(show V.v=.agg E by rw[aa uc];rfl)▸Bc U V Y6 hUI hVI (aa jf))
    have y6:Hid (U.In Y6∧V.In Y6):=ab (by
     have hz:Y6.heap.size=y5.heap.size+1:=by rw[me];simp
     have ho:∀i,i < y5.heap.size→i≠y1.heap.size+1→Y6.heap[i]? =y5.heap[i]? :=fun i h1 h2=>by
      rw[me];exact(dH _ _ _ _ h2).trans ((dH _ _ _ _ (by omega)).trans (Below.heap_alloc _ _ _ h1))
     have hs5:=(aa eq).size;have hl4:=aa ii;exact⟨((aa HLU).step (by omega) fun i _ h2=>(ho i (by omega) (by omega)).trans ((aa eq).block i h2)).here,((aa j3).step (by omega) fun i h1 h2=>ho i h2 (by omega)).here⟩)
    have HWY:=ab me;clear me hl kL;go_upto_region 17 with (first
     | (refine aX rfl 30 _ _ rfl y5.heap.size E rfl rfl 30 bh.cells (by with_reducible exact aa HN5) (cn.trans (by rw[aa wG])) (by rw[aa wG];rfl) (aa jg) ?_)
     | (refine aX rfl 36 _ _ rfl (y1.heap.size+1) #[.int .i64 0,.int .i64 0] rfl rfl 36 #[.int .i64 0,.int .i64 0] (by with_reducible exact aa jO) fy rfl (by simp[Value.oneCell']) ?_)
     | fail)
    rw[show ((y5.alloc (.cells Z24 30)).setRow y5.heap.size E).setRow (y1.heap.size+1) #[.int .i64 0,.int .i64 0]=Y6 from (aa HWY).symm];obtain⟨f0, -⟩:=jj (aa HF6);clear HN5 jO HWY HS5 HF5 qY eq HLU j3 ii;go_wp2_with (first
     | (refine y9 (by rfl) 30 _ rfl y1.heap.size rfl 30 D (0,0) _ (by with_reducible exact aa dQ) underlying30 rfl (cn.trans (by rw[aa dL])) ?_)
     | (refine y9 (by rfl) 30 _ rfl y5.heap.size rfl 30 E (0,0) _ (by with_reducible exact aa HE6) underlying30 rfl (cn.trans (by rw[aa wG])) ?_)
     | fail)
    refine(aa CS (aa y6).1 (aa y6).2).mono ?_;rintro e y7 ⟨rfl,hb7⟩;have HY7:=ab (ap (aa HY6) hb7);clear hb7;go_wp2_with fail;go_ret;exact⟨rfl,aa HY7⟩
   ·rcases (EY (S:=U) (aa mg)).resolve_left hp with h | h
    ·rw[h]
     clear h hp mg;go_wp2_with fail;go_ret;exact⟨rfl,aa qZ⟩
    ·rw[h]
     clear h hp mg;go_wp2_with fail;go_ret;exact⟨rfl,aa qZ⟩
open Go.RowKit
theorem JE (S:SV) (t:ByteArray) (w:World) (dx:S.In w) (ht:t.size≤maxLen) (hP:PrW w) (hW:SyW w):Calls prog 3 #[S.v,.string t] w fun e w'=>e=.returned (.bool true)∧Below w.heap.size w w':=by
 by_cases hq:(iy S).2=0
 ·exact KP S t w dx ht hP hW hq
 ·exact JD S t w dx ht hP hW hq
open Go.ChangeShapes Go.WideShapes Go.ChangeAt Go.RowKit Go.Deep
theorem BA:prog.cellsOf 24=5:=by kernel_rfl
theorem Km:prog.cellsOf 22=1:=by kernel_rfl
theorem Ko:prog.cellsOf 2=1:=by kernel_rfl
theorem L4:prog.cellsOf 4=1:=by kernel_rfl
theorem Kn:prog.cellsOf 28=1:=by kernel_rfl
theorem L2:prog.cellsOf 30=24:=by kernel_rfl
theorem Bj:prog.cellsOf 128=5:=by kernel_rfl
theorem C9 {H:Type} {enc:TypeId × Value→H} {W:World} {base m:Nat} {spare:Nat→Bool} {held:Bool} {cs:List Value} {pl:List MemPlace} {s:List UInt8} {h a b:Int} {q:Bool}
  (hd:DataW.trod enc prog W base spare held m 128 cs=some (.agg [.lit (.string s),.lit (.int .i64 h),.lit (.bool q),.lit (.int .i64 a),.lit (.int .i64 b)],pl)):
  cs=[.string ⟨s.toArray⟩,.int .i64 h,.bool q,.int .i64 a,.int .i64 b]:=by
 obtain⟨xs,n, -,hx,hl,lh,hf⟩:=xE underlying128 hd;rw[Bj] at hl
 replace lh:xs.length=5:=lh
 simp only[nX,DataW.agg.injEq] at hx
 match xs,lh,cs,hl with
 | [x0,x1,x2,x3,x4],_,[c0,c1,c2,c3,c4],_=>
  have u0:=hf 0 _ rfl;have u1:=hf 1 _ rfl;have u2:=hf 2 _ rfl;have u3:=hf 3 _ rfl;have u4:=hf 4 _ rfl;simp[Du] at u0;simp[Dv] at u1 u3 u4;simp[L4] at u2;obtain⟨t,fm,jL, -⟩:=pM underlying9 u0;obtain⟨k1,dM,hd1, -⟩:=rS underlying3 u1;obtain⟨k2,j2,hd2⟩:=DataW.trod_bool underlying4 u2;obtain⟨k3,og,hd3, -⟩:=rS underlying3 u3;obtain⟨k4,mb,hd4, -⟩:=rS underlying3 u4;simp only[nW,n0] at fm dM j2 og mb;subst fm dM j2 og mb;have mJ:=hx.1;rw[jL,hd1,hd2,hd3,hd4] at mJ;simp only[ib,kK,nW,DataW.lit.injEq,Lit.string.injEq,Lit.int.injEq,Lit.bool.injEq,n0,true_and] at mJ;obtain⟨e0,e1,e2,e3,e4⟩:=mJ;subst e1 e2 e3 e4;rw[e0]
theorem Im (K:Nat) (h1:1≤K) (h2:K≤13):∃l,(Rows.laid_scanfail_syntax_shapes (H:=Unit))=.agg l∧l[K]? =some (.agg [.lit (.string (cL K).data.toList),.lit (.int .i64 (bB K)),.lit (.bool (bW K)),.lit (.int .i64 (bG K)),.lit (.int .i64 (bF K))]):=by
 refine⟨_,rfl, ?_⟩;have h:K=1∨K=2∨K=3∨K=4∨K=5∨K=6∨K=7∨K=8∨K=9∨K=10∨K=11∨K=12∨K=13:=by omega
 rcases h with rfl | rfl | rfl | rfl | rfl | rfl | rfl | rfl | rfl | rfl | rfl | rfl | rfl <;> rfl
theorem IW {W:World} {rest:List (String × DataW Unit)} (h:laidMet prog (("scanfail/syntax.shapes",Rows.laid_scanfail_syntax_shapes)::rest) W):gP W:=by
 obtain⟨ps,⟨g',t',cs,fuel,p,q,hg',ht',yO,hd, -, -⟩, -⟩:=h;have hg:prog.globalNamed "scanfail/syntax.shapes" =some 0:=by kernel_rfl
 have hty:(prog.globals[0]?).map (·.type)=some 129:=by kernel_rfl
 obtain rfl:=k8 (hg.symm.trans hg');obtain rfl:=k8 (hty.symm.trans ht');intro K h1 h2;obtain⟨l,hl,l9⟩:=Im K h1 h2;rw[hl] at hd;obtain⟨xs,m, -,hx,oe,hxl,hf⟩:=DataW.trod_array underlying129 hd;simp only[nX,DataW.agg.injEq] at hx;have hK:=hf K (by omega)
 rw[Bj] at hK;have hxK:∃y,xs[K]? =some y∧y.1=.agg [.lit (.string (cL K).data.toList),.lit (.int .i64 (bB K)),.lit (.bool (bW K)),.lit (.int .i64 (bG K)),.lit (.int .i64 (bF K))]:=by
  rw[hx.1,rP] at l9
  cases hy:xs[K]? with
  | none=>rw[hy] at l9;cases l9
  | some y=>rw[hy] at l9;exact⟨y,rfl,k8 l9⟩
 obtain⟨⟨y1,y2⟩,hy,hyd⟩:=hxK;simp only at hyd;rw[hy,hyd] at hK;have aV:=C9 hK;have hc:∀j,j < 5→W.cell? ⟨0,K * 5+j,none⟩=((cs.toList.drop (K * 5)).take 5)[j]? :=fun j hj=>by
  have h3:=World.var?_cell hg yO (K * 5+j);rw[h3,List.getElem?_take,af hj,List.getElem?_drop,th]
 rw[aV] at hc;exact⟨hc 0 (by omega),hc 1 (by omega),hc 2 (by omega),hc 3 (by omega),hc 4 (by omega)⟩
theorem DN {H:Type} {enc:TypeId × Value→H} {W:World}:∀(N fuel:Nat) (cs:List Value) (d:DataW H) (pl:List MemPlace),Rows.uptoBulk d≤N→
  DataW.trod enc prog W 0 (fun _=>true) true fuel 24 cs=some (d,pl)→
  ∃T:PT,T.In W∧cs=[.int .i64 T.k,.string T.t,.int .i64 T.n,.string T.nm,.slice T.xa T.len T.cap]∧T.cnt≤Rows.uptoBulk d:=by
 intro N
 induction N with
 | zero=>
  intro fuel cs d pl hN h;obtain⟨xs,n, -,hx, -⟩:=xE underlying24 h;simp only[nX] at hx;rw[hx.1] at hN;simp[Rows.uptoBulk] at hN
 | succ N ihN=>
  intro fuel cs d pl hN h;obtain⟨xs,n, -,hx,hl,lh,hf⟩:=xE underlying24 h;rw[BA] at hl;simp only[nX] at hx;obtain⟨rfl, -⟩:=hx
  replace lh:xs.length=5:=lh
  match xs,lh,cs,hl with
  | [x0,x1,x2,x3,x4],_,[c0,c1,c2,c3,c4],_=>
   have u0:=hf 0 _ rfl;have u1:=hf 1 _ rfl;have u2:=hf 2 _ rfl;have u3:=hf 3 _ rfl;have u4:=hf 4 _ rfl;simp[Bk] at u0;simp[Ko] at u2;simp[zB] at u1 u3;simp[Km] at u4;obtain⟨k,fm,jL,gh⟩:=rS underlying3 u0;obtain⟨t,dM,hd1,gW⟩:=pM underlying9 u1;obtain⟨m,j2,hd2,gH⟩:=rS underlying2 u2;obtain⟨nm,og,hd3,vk⟩:=pM underlying9 u3;simp only[nW,n0] at fm dM j2 og;subst fm dM j2 og;have r0: -9223372036854775808≤k∧k≤9223372036854775807:=by simpa [Lit.wf,show IntKind.i64.min= -9223372036854775808 from rfl] using gh
   have r2: -9223372036854775808≤m∧m≤9223372036854775807:=by simpa [Lit.wf,show IntKind.i64.min= -9223372036854775808 from rfl] using gH
   rcases open_slice underlying22 u4 with ⟨mb,cy⟩ | ⟨a,len,cap,mm,q,D,Pl,mb,_,hlc,hcm,rZ,cy,jW⟩
   ·simp only[nW,n0] at mb
    subst mb;refine⟨.node k t m nm none 0 0 0 0 fun i=>i.elim0,⟨r0,gW,r2,vk,cU _,ax _,fun h=>absurd h (xG 0),fun i=>i.elim0⟩,rfl, ?_⟩
    simp[PT.cnt,eU,Rows.uptoBulk]
   ·simp only[nW,n0] at mb
    subst mb;simp only[if_true] at rZ;rw[BA] at jW;have io:∀i,i < len→∃T:PT,T.In W∧W.cells? 0 (a.add (i * 5)) 5=some [.int .i64 T.k,.string T.t,.int .i64 T.n,.string T.nm,.slice T.xa T.len T.cap]∧T.cnt≤Rows.uptoBulk (D i):=by
     intro i hi;obtain⟨cs',h1,h2⟩:=jW i (by omega)
     have CL:Rows.uptoBulk (D i)≤N:=by
      have h3:=BF ((List.range len).map D) (D i) (List.mem_map.2 ⟨i,List.mem_range.2 hi,rfl⟩);rw[cy] at hN;simp[Rows.uptoBulk,Rows.uptoBulkAll] at hN;omega
     obtain⟨T,hT,aV,yT⟩:=ihN q cs' (D i) (Pl i) CL h2;exact⟨T,hT,by rw[h1,aV],yT⟩
    obtain⟨b,o,spot⟩:=a;have vj:0 < len→spot=none:=fun hp=>by
     obtain⟨T, -,hc, -⟩:=io 0 hp;obtain⟨-,cM,qB⟩:=yJ hc
     simpa [Addr.add] using World.cell?_spot (qB 0 (by omega))
    refine⟨.node k t m nm (some ⟨b,o,spot⟩) b o len cap fun i=>(io i.val i.isLt).choose,⟨r0,gW,r2,vk,by omega,hlc,fun hp=> ?_,fun i=> ?_⟩,rfl, ?_⟩
    ·rw[vj hp]
    ·obtain⟨i,hi⟩:=i
     obtain⟨hT,hc, -⟩:=(io i hi).choose_spec;show (W.cell? ⟨b,o+i * 5,none⟩=some (.int .i64 (io i hi).choose.k)∧W.cell? ⟨b,o+i * 5+1,none⟩=some (.string (io i hi).choose.t)∧W.cell? ⟨b,o+i * 5+2,none⟩=some (.int .i64 (io i hi).choose.n)∧W.cell? ⟨b,o+i * 5+3,none⟩=some (.string (io i hi).choose.nm)∧W.cell? ⟨b,o+i * 5+4,none⟩=some (io i hi).choose.kv)∧PT.In W (io i hi).choose;generalize (io i hi).choose=T at hT hc ⊢;obtain⟨-,cM,qB⟩:=yJ hc;obtain rfl:=vj (by omega)
     have hj:∀j,(h:j < 5)→W.cell? ⟨b,o+i * 5+j,none⟩=[Value.int .i64 T.k,.string T.t,.int .i64 T.n,.string T.nm,.slice T.xa T.len T.cap][j]? :=fun j h=>by
      have:=qB j h;rw[nY,nY] at this;rw[this]
     exact⟨⟨hj 0 (by omega),hj 1 (by omega),hj 2 (by omega),hj 3 (by omega),hj 4 (by omega)⟩,hT⟩
    ·have AF:=A7 D (kf len 1 fun i=>((io i.val i.isLt).choose).cnt) len (fun i hi=>by rw[sS hi];exact(io i hi).choose_spec.2.2)
     rw[cy];simp only[PT.cnt,ib,kK,Rows.uptoBulk,Rows.uptoBulkAll];omega
theorem Ed {H:Type} {enc:TypeId × Value→H} {W:World} {fuel:Nat} {c:Value} {d:DataW H} {pl:List MemPlace} (h:DataW.trod enc prog W 0 (fun _=>true) true fuel 28 [c]=some (d,pl)):∃N:NL,N.In W∧c=N.v:=by
 rcases open_slice underlying28 h with ⟨hc, -⟩ | ⟨a,len,cap,mm,q,D,Pl,hc,_,hlc,hcm,rZ, -,jW⟩
 ·simp only[nW,n0] at hc
  subst hc;exact⟨⟨none,0,0,0,[]⟩,⟨ax _,cU _,fun h=>absurd h (xG 0),fun i t ht=>by simp at ht⟩,rfl⟩
 ·simp only[nW,n0] at hc
  subst hc;simp only[if_true] at rZ;rw[zB] at jW;have io:∀i,i < len→∃t:ByteArray,t.size≤maxLen∧W.cells? 0 (a.add (i * 1)) 1=some [.string t]:=by
   intro i hi;obtain⟨cs',h1,h2⟩:=jW i (by omega)
   obtain⟨t,ht, -,hs⟩:=pM underlying9 h2;exact⟨t,hs,by rw[h1,ht]⟩
  obtain⟨b,o,spot⟩:=a;have vj:0 < len→spot=none:=fun hp=>by
   obtain⟨T, -,hc⟩:=io 0 hp;obtain⟨-,cM,qB⟩:=yJ hc
   simpa [Addr.add] using World.cell?_spot (qB 0 (by omega))
  haveI:Inhabited ByteArray:=⟨ByteArray.empty⟩
  obtain⟨F,hF⟩:=choose_lt (α:=ByteArray) (p:=fun i t=>t.size≤maxLen∧W.cells? 0 ((⟨b,o,spot⟩:Addr).add (i * 1)) 1=some [.string t]) io
  refine⟨⟨some ⟨b,o,spot⟩,b,o,cap,(List.range len).map F⟩,⟨by simpa using hlc,by simpa using hcm,fun hp=>by rw[vj (by simpa using hp)],fun i t ht=> ?_⟩,by unfold NL.v;simp⟩
  have ht:((List.range len).map F)[i]? =some t:=ht;rw[rP] at ht;rcases cX i len with hi | hi
  ·rw[List.getElem?_range hi] at ht
   obtain rfl:=(k8 ht).symm;obtain⟨hs,hc⟩:=hF i hi;obtain⟨-,cM,qB⟩:=yJ hc;obtain rfl:=vj (by omega)
   have:=qB 0 (by omega)
   rw[nY,nY,Nat.mul_one,Nat.add_zero] at this;exact⟨this,hs⟩
  ·rw[xB (by simpa using hi)] at ht
   cases ht
theorem J0 {H:Type} {enc:TypeId × Value→H} {W:World} {fuel:Nat} {cs:List Value} {d:DataW H} {pl:List MemPlace} (h:DataW.trod enc prog W 0 (fun _=>true) true fuel 30 cs=some (d,pl)):
  ∃S:SV,S.In W∧cs=S.cells.toList:=by
 obtain⟨xs,n, -,hx,hl,lh,hf⟩:=xE underlying30 h;rw[L2] at hl
 replace lh:xs.length=12:=lh
 match xs,lh,cs,hl with
 | [x0,x1,x2,x3,x4,x5,x6,x7,x8,x9,x10,x11],_,[c0,c1,c2,c3,c4,c5,c6,c7,c8,c9,sn,sj,vB,vA,vz,vy,vx,c17,c18,c19,c20,vw,nA,c23],_=>
  have u0:=hf 0 _ rfl;have u1:=hf 1 _ rfl;have u2:=hf 2 _ rfl;have u3:=hf 3 _ rfl;have u4:=hf 4 _ rfl;have u5:=hf 5 _ rfl;have u6:=hf 6 _ rfl;have u7:=hf 7 _ rfl;have u8:=hf 8 _ rfl;have u9:=hf 9 _ rfl;have u10:=hf 10 _ rfl;have u11:=hf 11 _ rfl;simp[zB] at u0 u5 u6 u9 u10 u11;simp[Bk] at u1;simp[BA] at u2 u3;simp[BB] at u4;simp[Kn] at u7 u8;obtain⟨lab,h0, -,s0⟩:=pM underlying9 u0;obtain⟨k,h1, -, -⟩:=rS underlying3 u1;obtain⟨tg,i2,h2, -⟩:=DN _ n _ x2.1 x2.2 (ax _) u2;obtain⟨va,i3,h3, -⟩:=DN _ n _ x3.1 x3.2 (ax _) u3;obtain⟨pa,i4,h4, -⟩:=Ly _ n _ x4.1 x4.2 (ax _) u4;obtain⟨nm,h5, -,s5⟩:=pM underlying9 u5;obtain⟨en,h6, -,s6⟩:=pM underlying9 u6;obtain⟨ps,i7,h7⟩:=Ed u7;obtain⟨ls,i8,h8⟩:=Ed u8;obtain⟨al,h9, -,s9⟩:=pM underlying9 u9;obtain⟨ye,eD, -,tE⟩:=pM underlying9 u10;obtain⟨no,eQ, -,tD⟩:=pM underlying9 u11;simp only[nW,n0] at h0 h1 h2 h3 h4 h5 h6 h9 eD eQ;refine⟨⟨lab,k,tg,va,pa,nm,en,ps,ls,al,ye,no⟩,⟨⟨s0,s5,s6,s9,tE,tD⟩,i2,i3,i4,i7,i8⟩, ?_⟩;obtain⟨a2,b2,c2',d2,e2⟩:=h2;obtain⟨a3,b3,c3',d3,e3⟩:=h3;obtain⟨a4,b4,c4',d4,e4⟩:=h4;rw[h0,h1,a2,b2,c2',d2,e2,a3,b3,c3',d3,e3,a4,b4,c4',d4,e4,h5,h6,h7,h8,h9,eD,eQ];rfl
theorem open_argStmt {H:Type} {enc:TypeId × Value→H} {W:World} {base:Nat} {v:Value} {d:DataW H} {p:List MemPlace}
  (hval:Value.okWide prog W .any base 30 v) (h:DataW.Trod enc prog W 0 (fun _=>true) true 30 v d p):∃S:SV,S.In W∧v=S.v:=by
 obtain⟨cs,rfl,ay⟩:=okWide_struct underlying30 hval;obtain⟨fuel,hf⟩:=h;obtain⟨S,hS,aV⟩:=J0 hf;refine⟨S,hS, ?_⟩;have:cs.toList=S.cells.toList:=aV;unfold SV.v;rw[Array.toList_inj.1 this]
theorem EO: "*" ++ "errors.errorString" = "*errors.errorString" :=by decide
theorem KZ (u:TypeId) (h:prog.typeName? 3 u=some "*errors.errorString"):u=233:=
 typeName_ptr_named (nm:= "errors.errorString") (by rw[EO];kernel_rfl) (by kernel_rfl) (by decide) u (by rw[EO];exact h)
theorem Hx:∃l,(Rows.laid_scanfail_syntax_shapes (H:=Unit))=.agg l∧l[0]? =some (.agg [.lit (.string []),.lit (.int .i64 0),.lit (.bool false),.lit (.int .i64 0),.lit (.int .i64 0)]):=⟨_,rfl,rfl⟩
theorem JN {W:World} {rest:List (String × DataW Unit)} (h:laidMet prog (("scanfail/syntax.shapes",Rows.laid_scanfail_syntax_shapes)::rest) W):W.cell? ⟨0,1,none⟩=some (.int .i64 0):=by
 obtain⟨ps,⟨g',t',cs,fuel,p,q,hg',ht',yO,hd, -, -⟩, -⟩:=h;have hg:prog.globalNamed "scanfail/syntax.shapes" =some 0:=by kernel_rfl
 have hty:(prog.globals[0]?).map (·.type)=some 129:=by kernel_rfl
 obtain rfl:=k8 (hg.symm.trans hg');obtain rfl:=k8 (hty.symm.trans ht');obtain⟨l,hl,l9⟩:=Hx;rw[hl] at hd;obtain⟨xs,m, -,hx,oe,hxl,hf⟩:=DataW.trod_array underlying129 hd;simp only[nX,DataW.agg.injEq] at hx;have hK:=hf 0 (by omega)
 rw[Bj] at hK;have hxK:∃y,xs[0]? =some y∧y.1=.agg [.lit (.string []),.lit (.int .i64 0),.lit (.bool false),.lit (.int .i64 0),.lit (.int .i64 0)]:=by
  rw[hx.1,rP] at l9
  cases hy:xs[0]? with
  | none=>rw[hy] at l9;cases l9
  | some y=>rw[hy] at l9;exact⟨y,rfl,k8 l9⟩
 obtain⟨⟨y1,y2⟩,hy,hyd⟩:=hxK;simp only at hyd;rw[hy,hyd] at hK;have aV:=C9 hK;have hc:∀j,j < 5→W.cell? ⟨0,j,none⟩=((cs.toList.drop (0 * 5)).take 5)[j]? :=fun j hj=>by
  have h3:=World.var?_cell hg yO (j);rw[h3,List.getElem?_take,af hj,List.getElem?_drop,Nat.zero_mul,oI,th]
 rw[aV] at hc;exact hc 1 (by omega)
theorem EM {w:World} (h:laidMetH prog Rows.syntaxTurnsRow.laid w) (hm:∃m,w.cell? ⟨2,0,none⟩=some (.int .i64 m)):PrW w∧SyW w:=by
 have e:(Rows.syntaxTurnsRow.laid.filter fun x=>x.2.handleName?.isSome)=[]:=by kernel_rfl
 have h':laidMet prog Rows.syntaxTurnsRow.laid w:=by
  have hp:=h;unfold laidMetH at hp;rw[e] at hp;exact hp
 have h2:=h'.tail.tail;have he:=h2.tail.tail;have hp:=he.tail.tail;have hx:=hp.tail;have ht:Lib.TabIs prog w "internal/strconv.uint64pow10" .u64 Lib.pow10Tab:=Lib.tabIs_of_head (g:=3) (t:=203) (e:=187) (n:=20) (by kernel_rfl) (by kernel_rfl) underlying203 underlying187 (by kernel_rfl) (by kernel_rfl) (rest:=_) (show laidMet prog (("internal/strconv.uint64pow10",Lib.tabData .u64 Lib.pow10Tab)::_) w from h2)
 have hb:=Lib.tabBelow_of_tabIs ht;have hS:dI w:=JM (rest:=_) hp;have hX:gP w:=IW (rest:=_) hx;have hg:prog.globalNamed "strconv.ErrRange" =some 9:=by kernel_rfl
 obtain⟨a0,s0,hv, -⟩:=laid_sentinel (show laidMet prog (("strconv.ErrRange",.iface "*errors.errorString" (.ptr (.agg [.lit (.string [118,97,108,117,101,32,111,117,116,32,111,102,32,114,97,110,103,101])])))::_) w from he) hg (ti:=135) (by kernel_rfl) underlying135 KZ underlying233 underlying235 rfl rfl underlying9 (by kernel_rfl) (by kernel_rfl)
 exact⟨⟨⟨hX,hm,hb⟩,⟨hS,hm,hb⟩⟩,⟨hS,hX,JN (rest:=_) hx,⟨_,_,by have h3:=World.var?_cell hg hv 0;exact h3⟩⟩⟩
theorem syntaxTurns_walk (S:SV) (t:ByteArray) (w:World) (dx:S.In w) (ht:t.size≤maxLen) (h:laidMetH prog Rows.syntaxTurnsRow.laid w) (hm:∃m,w.cell? ⟨2,0,none⟩=some (.int .i64 m)):Calls prog 3 #[S.v,.string t] w fun e w'=>e=.returned (.bool true)∧Below w.heap.size w w':=
 JE S t w dx ht (EM h hm).1 (EM h hm).2
end Go.Proofs.YtlmnjbipfacniaaGreatDoor
