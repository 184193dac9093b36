/- The reader of lines: a line. The table of expressions' kinds -/
import Derived.Test.YtlmnjbipfacniaaGreatDoorSyUMs
import Derived.Test.YtlmnjbipfacniaaGreatDoorSyNzMs
import Derived.Test.YtlmnjbipfacniaaGreatDoorExFitsMs
import Derived.Test.YtlmnjbipfacniaaGreatDoorOpenPat6Ps
import Derived.Test.YtlmnjbipfacniaaGreatDoorWrNMs
import Derived.Stop.LaidErr
import Derived.Test.YtlmnjbipfacniaaGreatDoorStCMs
import Derived.Test.YtlmnjbipfacniaaGreatDoorLxPlainMs
import Derived.Deep.MidRow
import Derived.Test.YtlmnjbipfacniaaGreatDoorRdRowMs
import Derived.Deep.RegionHeld3
set_option maxRecDepth 100000
set_option maxHeartbeats 8000000
namespace Go.Proofs.YtlmnjbipfacniaaGreatDoor
open Go.Proofs.Tryz
open Go.RowKit
def Af (s:ByteArray) (w:World) (e:Ending) (w':World):Prop:=
 Below w.heap.size w w'∧(∀er a,jb s=.error (er,a)→e=.returned (.tuple #[cc.v,.bool false,cY er a]))∧(jb s=.ok none→e=.returned (.tuple #[cc.v,.bool false,cY 0 0]))∧
  (∀P,jb s=.ok (some P)→∃S:SV,e=.returned (.tuple #[S.v,.bool true,cY 0 0])∧S.can=P∧SLies w.heap.size w' S)
structure LnS (w:World) (B:Nat) (W:World) (C F:Array Value):Prop where
 bel:Below B w W
 s:W.heap[B]? =some (.cells C 30 (0,0))
 f:W.heap[B+1]? =some (.cells F 36 (0,0))
section
variable {w W W':World} {B:Nat} {C F:Array Value}
theorem LnS.st (h:LnS w B W C F) (D:Array Value):LnS w B (W.setRow B D) D F:=⟨ed h.bel B (aw _) D,bW _ _ _ _ _ _ h.s,(eZ W B (B+1) D (by omega)).trans h.f⟩
theorem LnS.fa (h:LnS w B W C F) (D:Array Value):LnS w B (W.setRow (B+1) D) C D:=⟨ed h.bel (B+1) (by omega) D,(eZ W (B+1) B D (by omega)).trans h.s,bW _ _ _ _ _ _ h.f⟩
theorem LnS.lt (h:LnS w B W C F):B+1 < W.heap.size:=(bC.1 h.f).1
theorem LnS.below (h:LnS w B W C F) (hb:Below W.heap.size W W'):LnS w B W' C F:=⟨h.bel.trans (hb.mono (by have:=h.lt;omega)),an h.s hb,an h.f hb⟩
end
theorem qD (tmps:Array Value) (W:World) (gp gf:Nat) (cs fs:Array Value) (b:Value) (h2:tmps.getD 2 undef=.pointer (some ⟨gp,0,none⟩)) (h3:tmps.getD 3 undef=b) (h4:tmps.getD 4 undef=.pointer (some ⟨gf,0,none⟩)) (hp:W.heap[gp]? =some (.cells cs 30 (0,0))) (hf:W.heap[gf]? =some (.cells fs 36 (0,0))) (jg:cs.size=24) (hfs:fs.size=2):
  (results Tryz.f8 tmps).run prog W=.ok (.tuple #[.agg cs,b,.agg fs]) W:=by
 have h2':tmps[2]?.getD undef=.pointer (some ⟨gp,0,none⟩):=by simpa using h2
 have h3':tmps[3]?.getD undef=b:=by simpa using h3
 have h4':tmps[4]?.getD undef=.pointer (some ⟨gf,0,none⟩):=by simpa using h4
 have e1:=uR (P:=prog) W gp 30 30 cs (0,0) _ hp underlying30 rfl (by rw[jg];exact de)
 have e2:=uR (P:=prog) W gf 36 36 fs (0,0) _ hf underlying36 rfl (by rw[hfs];exact fh)
 simp[results,Tryz.results8,h2',h3',h4',asAddr,e1,e2]
theorem KR (s:ByteArray):Lib.hasPrefix s.data.toList [42]=decide (aj s 0=42):=by
 unfold Lib.hasPrefix aj
 cases h:s.data.toList with
 | nil=>rfl
 | cons c r=>
  show ((42:UInt8)==c && List.isPrefixOf [] r)=decide (c.toNat=42);rw[show List.isPrefixOf ([]:List UInt8) r=true from by cases r <;> rfl,Bool.and_true]
  by_cases q:c=42
  ·subst q;rfl
  ·rw[db (fun z:c.toNat=42=>q (tp.1 (z.trans rfl))),nc]
   exact fun z=>q z.symm
theorem zG (T:PT):T.can.fits=T.fits:=by unfold PT.fits;rw[Fi,Fh]
theorem JS (s:ByteArray) (h:(gx s).2.1=0):s.size≤2000:=by
 unfold gx at h;split at h
 ·exact absurd h (by decide)
 ·omega
theorem KH {w w':World} {v:Value} {s:ByteArray} (h:bP w' w.heap.size 102 3 n8 v (gx s).1) (h0:0 < w'.heap.size):∃g,SyTk w' v (gx s).1 g∧((gx s).1=[]∨w.heap.size≤g):=by
 rcases h.2 with ⟨rfl,e0⟩ | ⟨g,cap,cur,rfl,lg,vi,eN,je, -, -⟩
 ·refine⟨0,⟨⟨none,0,0,by rw[e0],by omega,cU _,fun q=>absurd (kG e0) q,fun i t ht=> ?_⟩,h0,D7 s⟩,.inl (kG e0)⟩
  rw[kG e0] at ht;cases ht
 ·refine⟨g,⟨⟨_,cap,0,rfl,eN,je,fun _=>rfl,fun i t ht=> ?_⟩,(bC.1 vi).1,D7 s⟩,.inr lg⟩
  rw[ni];exact⟨h.cell zH rfl ht (k:=0) rfl,h.cell zH rfl ht (k:=1) rfl,h.cell zH rfl ht (k:=2) rfl⟩
theorem SyTk.set {w:World} {v:Value} {l:List Tk} {g k:Nat} (h:SyTk w v l g) (hg:l=[]∨k < g) (D:Array Value):SyTk (w.setRow k D) v l g:=by
 obtain⟨⟨xa,cap,off,h1,h2,h3,h4,h5⟩,h6,h7⟩:=h;refine⟨⟨xa,cap,off,h1,h2,h3,h4,fun i t ht=> ?_⟩,by simpa using h6,h7⟩
 rcases hg with hg | hg
 ·subst hg;cases ht
 ·exact h5.same (eZ w k g D (by omega)) i t ht
theorem gI {w:World} {g:Nat} {C:Array Value} (h:w.heap[g]? =some (.cells C 30 (0,0))) {k:Nat} {u:Value} (hk:C[k]? =some u):w.cell? ⟨g,k,none⟩=some u:=by rw[eB _ _ _ _ _ _ h];exact hk
theorem uc {o:Oper} {a:Act} {w:World} {K:Act→World→Prop} {Q:Exit→Act→World→Prop} {E:Prop} {ops:Array Oper} (nD:o.guard=none) (ty:TypeId) (x y:Operand) (ho:o.op=.store ty x y)
  (g:Nat) (cells:Array Value) (hx:a.eval x=.pointer (some ⟨g,0,none⟩)) (hy:a.eval y=.agg cells) (t:TypeId) (old:Array Value) (hg:w.heap[g]? =some (.cells old t (0,0))) (hi:(prog.info? ty).map (·.size)=some cells.size)
  (Aw:old.size=cells.size) (h1:cells.all (·.oneCell')=true) (h:K (a.put o.dst undef) (w.setRow g cells)):if Region.wanted o (yielded ops a.tmps)=true then Oper.wp prog o a w K Q else E:=by
 have hw:Region.wanted o (yielded ops a.tmps)=true:=by simp[Region.wanted,nD]
 rw[af hw];exact wp_store_row ty x y ho g cells hx hy t old hg hi Aw h1 h
theorem Dl (s:ByteArray) (w:World) (hs:s.size≤maxLen) (hW:SyW w) (m:Int) (hm:w.cell? ⟨2,0,none⟩=some (.int .i64 m)):Calls prog 8 #[.string s] w fun e w'=>Af s w e w':=by
 obtain⟨B,hB⟩:∃B,B=w.heap.size:=⟨_,rfl⟩;obtain⟨w0,fV⟩:∃w0,w0=(w.alloc (.cells Z24 30)).alloc (.cells #[.int .i64 0,.int .i64 0] 36):=⟨_,rfl⟩;have H0:Hid (LnS w B w0 Z24 #[.int .i64 0,.int .i64 0]):=ab (by
  refine⟨?_, ?_, ?_⟩
  ·rw[fV,hB];exact(ba _).alloc (by simp) _
  ·rw[fV,hB];exact ci (by simp) (ax rfl)
  ·rw[fV,hB];exact ax (by simp))
 have HPF:=ab (fun W=>show Calls prog 21 #[.string s,.string ⟨#[42]⟩] W fun e w'=>e=.returned (.bool (decide (aj s 0=42)))∧w'=W from KR s▸Tryz.strings_HasPrefix s ⟨#[42]⟩ W)
 have tX:=ab (fun W (hb:Below B w W)=>Lj s W hs m (av (hB▸hb) hm))
 have oC:=ab (fun W v g h1 (hb:Below B w W) h=>G3 s (gx s).1 v g W h1 (hW.later (hB▸hb)) h)
 obtain⟨RR,bD⟩:∃RR,RR=jb s:=⟨_,rfl⟩;have kP:=ab (show ∀e w',(Below B w w'∧(∀er a,RR=.error (er,a)→e=.returned (.tuple #[cc.v,.bool false,cY er a]))∧(RR=.ok none→e=.returned (.tuple #[cc.v,.bool false,cY 0 0]))∧
  (∀P,RR=.ok (some P)→∃S:SV,e=.returned (.tuple #[S.v,.bool true,cY 0 0])∧S.can=P∧SLies B w' S))→Af s w e w' from fun e w' h=>by rw[hB,bD] at h;exact h)
 have aA:∀er a W,RR=.error (er,a)→Below B w W→Af s w (.returned (.tuple #[cc.v,.bool false,cY er a])) W:=fun er a W h hb=>aa kP _ _ ⟨hb,fun er' a' h'=>(by rw[h] at h';injection h' with h';injection h' with h1 h2;rw[h1,h2]),fun h'=>(by rw[h] at h';cases h'),fun P h'=>(by rw[h] at h';cases h')⟩
 have gO:=ab aA;have HQ:=ab (show RR=if aj s 0=42∧s.size≤2000 then .ok none else if (gx s).2.1≠0 then .error ((gx s).2.1,(gx s).2.2) else match qQ s (gx s).1 with
  | .error e=>.error e
  | .ok x=>if x.1.tg.fits=true∧x.1.va.fits=true then .ok (some x.1) else .error (4,0) from bD)
 have HWD:Hid ((w.alloc (.cells Z24 30)).alloc (.cells #[.int .i64 0,.int .i64 0] 36)=w0):=ab (fV.symm);have HB:=ab hB;have sL:=ab (JS s);have mj:=ab (fun (W W':World) (v:Value) (h:bP W' W.heap.size 102 3 n8 v (gx s).1) h0=>KH h h0)
 clear fV bD hB hs hm hW aA;unfold wZ at tX;generalize (gx s).2.2=la at *;generalize eN:(gx s).2.1=le at *;clear eN;generalize (gx s).1=ll at *;go_enter func8,ntmps8;go_wp2_with fail;rw[aa HWD];rw[show w.heap.size=B from (aa HB).symm];refine(aa HPF w0).mono ?_;rintro e w0 ⟨rfl,rfl⟩;clear HPF HWD HB;generalize aj s 0=b at *
 by_cases hb:b=42
 ·rw[fk hb]
  by_cases h2:s.size≤2000
  ·have HE:Hid (RR=.ok none):=ab (by rw[aa HQ,af ⟨hb,h2⟩])
   have q2:(s.size:Int)≤2000:=by omega
   clear hb h2 HQ;have H1:=ab ((aa H0).st Z24);have H2:=ab ((aa H1).fa #[.int .i64 0,.int .i64 0]);go_wp2_with (first
    | (refine bh rfl 30 _ _ rfl B Z24 rfl rfl 30 Z24 (by with_reducible exact(aa H0).s) de rfl (SV.cells_one cc) ?_)
    | (refine bh rfl 36 _ _ rfl (B+1) #[.int .i64 0,.int .i64 0] rfl rfl 36 #[.int .i64 0,.int .i64 0] (by with_reducible exact(aa H1).f) fh rfl (by simp[Value.oneCell']) ?_)
    | fail)
   exact bK (qD _ _ B (B+1) Z24 #[.int .i64 0,.int .i64 0] (.bool false) rfl rfl rfl (aa H2).s (aa H2).f rfl rfl) rfl (aa kP _ _ ⟨(aa H2).bel,fun er a h=>(by rw[aa HE] at h;cases h),fun _=>rfl,fun P h=>(by rw[aa HE] at h;cases h)⟩)
  ·have bO:=ab ((aa HQ).trans (ac (fun q=>h2 q.2)))
   have q2:(2000:Int) < (s.size:Int):=by omega
   clear hb h2 HQ;go_wp2_with fail;refine(aa tX w0 (aa H0).bel).mono ?_;rintro e w1 ⟨v,rfl,aS,hb1⟩;have H1:=ab ((aa H0).below hb1);have gG:=ab (aa mj w0 w1 v aS (by have:=(aa H1).lt;omega))
   have H2:=ab ((aa H1).fa (tj le la));have dW:=ab (aa H0).lt;clear hb1 aS tX mj;unfold tj at H2;unfold tj;obtain⟨f0,f1⟩:=jX (aa H2).f
   by_cases h0:le=0
   ·have q0:((le:Int) !=0)=false:=by simp;omega
    have aU:=ab ((aa bO).trans (ac (fun q=>q h0)))
    have kU:=ab (aa sL h0);clear h0 bO sL;go_wp2_with (first
     | (refine bh rfl 36 _ _ rfl (B+1) #[.int .i64 (le:Int),.int .i64 (la:Int)] rfl rfl 36 #[.int .i64 0,.int .i64 0] (by with_reducible exact(aa H1).f) fh rfl (by simp[Value.oneCell']) ?_)
     | fail)
    obtain⟨g,hTK,lg⟩:=aa gG;have HR:=ab (aa oC _ v g (aa kU) (aa H2).bel (hTK.set (lg.imp id fun q=>by have:=aa dW;omega) #[.int .i64 (le:Int),.int .i64 (la:Int)]))
    clear f0 f1 hTK lg gG H1 oC;generalize w1.setRow (B+1) #[.int .i64 (le:Int),.int .i64 (la:Int)]=w2 at *;refine(aa HR).mono ?_;rintro e w3 ⟨hb3,ou,rg⟩;have H3:=ab ((aa H2).below hb3)
    cases hr:qQ s ll with
    | error x=>
     obtain⟨er,i⟩:=x;obtain⟨C,rfl,rl,rk⟩:=rg er i hr;have bX:=BX s ll er i hr;have hE:=aa aU;rw[hr] at hE;have HE:Hid (RR=.error (er,i)):=ab (hE);have q1:(er !=0)=true:=by simp;exact bX
     have H4:=ab ((aa H3).st C);have H5:=ab ((aa H4).fa #[.int .i64 er,.int .i64 (i:Int)]);have dp:=ab rl;have lR:=ab rk;obtain⟨f0,f1⟩:=jX (aa H5).f;clear ou rg hr hE rl rk hb3 aU HR bX;unfold cY;go_wp2_with (first
      | (refine bh rfl 30 _ _ rfl B C rfl rfl 30 Z24 (by with_reducible exact(aa H3).s) (de.trans (by rw[aa dp])) (by rw[aa dp];rfl) (aa lR) ?_)
      | (refine bh rfl 36 _ _ rfl (B+1) #[.int .i64 er,.int .i64 (i:Int)] rfl rfl 36 #[.int .i64 (le:Int),.int .i64 (la:Int)] (by with_reducible exact(aa H4).f) fh rfl (by simp[Value.oneCell']) ?_)
      | fail)
     generalize (w3.setRow B C).setRow (B+1) #[.int .i64 er,.int .i64 (i:Int)]=w5 at *;clear f0 f1;have h6:=(aa H5).st Z24;have bm:LnS w B w5.drew C #[.int .i64 er,.int .i64 (i:Int)]:=⟨(aa H5).bel.drew,(aa H5).s,(aa H5).f⟩;have lr:LnS w B (w5.drew.setRow B Z24) Z24 #[.int .i64 er,.int .i64 (i:Int)]:=bm.st Z24;have H7:=ab (lr.fa #[.int .i64 er,.int .i64 (i:Int)]);obtain⟨S0,aN⟩:∃S0:World→Prop,S0=fun W=>W.cell? ⟨B+1,0,none⟩=some (.int .i64 er)∧W.cell? ⟨B+1,1,none⟩=some (.int .i64 (i:Int)):=⟨_,rfl⟩
     have ap:=ab aN;have aW:Hid (∀W D,LnS w B W D #[.int .i64 er,.int .i64 (i:Int)]→S0 W):=ab (fun W D h=>by rw[aN];exact jX h.f)
     clear aN;have nH:=aa aW _ _ bm;refine gt 4 S0 ?_;intro F;refine aK F 0 ap nH ?_
     (try simp only[aH,aG])
     (try go_frame)
     refine aK F 1 ap nH ?_
     (try simp only[aH,aJ,aG])
     (try go_frame)
     refine ce 2 (fun K2 eD=> ?_)
     refine uc rfl 30 _ _ rfl B Z24 rfl rfl 30 C bm.s de (aa dp) (SV.cells_one cc) ?_;have nG:=aa aW _ _ lr;refine eD _ _ nG ?_
     (try simp only[aH,aJ,aG])
     (try go_frame)
     refine aK F 3 ap nG ?_
     (try simp only[aH,aJ,aG])
     (try go_frame)
     refine gy (by kernel_rfl) rfl (by kernel_rfl) (fun K4 bw=> ?_)
     refine uc rfl 36 _ _ rfl (B+1) #[.int .i64 er,.int .i64 (i:Int)] rfl rfl 36 #[.int .i64 er,.int .i64 (i:Int)] lr.f fh rfl (by simp[Value.oneCell']) ?_
     refine bw _ _ ?_
     (try simp only[aH,aJ,aG])
     (try go_frame)
     clear bw eD K4 K2 F nG nH lr bm h6 aW ap;go_wp2_with fail;exact bK (qD _ _ B (B+1) Z24 #[.int .i64 er,.int .i64 (i:Int)] (.bool false) rfl rfl rfl (aa H7).s (aa H7).f rfl rfl) rfl (aa gO er i _ (aa HE) (aa H7).bel)
    | ok x=>
     obtain⟨P,m⟩:=x;obtain⟨S,rfl,cA,cL⟩:=ou P m hr;have hE:=aa aU;rw[hr] at hE;have bN:Hid (RR=if P.tg.fits=true∧P.va.fits=true then .ok (some P) else .error (4,0)):=ab (hE);have hPt:P.tg.fits=S.tg.fits:=by rw[←cA];exact zG S.tg
     have hPv:P.va.fits=S.va.fits:=by rw[←cA];exact zG S.va
     rw[hPt,hPv] at bN;have HTM:=ab (fun W (hb:Below w3.heap.size w3 W)=>sQ S.tg W (PT.In.later hb cL.here.tg))
     have HVM:=ab (fun W (hb:Below w3.heap.size w3 W)=>sQ S.va W (PT.In.later hb cL.here.va))
     have HLIE:=ab cL;have HCAN:=ab cA;obtain⟨C,hC⟩:∃C,C=S.cells:=⟨_,rfl⟩;have dI:S.v=.agg C:=by rw[hC];rfl
     have gn:=ab dI;have rl:C.size=24:=by rw[hC];rfl
     have rk:C.all (·.oneCell')=true:=by rw[hC];exact SV.cells_one S
     have jP:C[2]? =some (.int .i64 S.tg.k)∧C[3]? =some (.string S.tg.t)∧C[4]? =some (.int .i64 S.tg.n)∧C[5]? =some (.string S.tg.nm)∧C[6]? =some (.slice S.tg.xa S.tg.len S.tg.cap):=by rw[hC];exact⟨rfl,rfl,rfl,rfl,rfl⟩
     have ir:C[7]? =some (.int .i64 S.va.k)∧C[8]? =some (.string S.va.t)∧C[9]? =some (.int .i64 S.va.n)∧C[10]? =some (.string S.va.nm)∧C[11]? =some (.slice S.va.xa S.va.len S.va.cap):=by rw[hC];exact⟨rfl,rfl,rfl,rfl,rfl⟩
     have dp:=ab rl;have lR:=ab rk;have rB:=ab ir;have H4:=ab ((aa H3).st C);have H5:=ab ((aa H4).fa #[.int .i64 0,.int .i64 0]);obtain⟨f0,f1⟩:=jX (aa H5).f;have s2:=gI (aa H5).s jP.1;have s3:=gI (aa H5).s jP.2.1;have s4:=gI (aa H5).s jP.2.2.1;have s5:=gI (aa H5).s jP.2.2.2.1;have s6:=gI (aa H5).s jP.2.2.2.2;have s7:=gI (aa H5).s ir.1;have s8:=gI (aa H5).s ir.2.1;have s9:=gI (aa H5).s ir.2.2.1;have tD:=gI (aa H5).s ir.2.2.2.1;have tC:=gI (aa H5).s ir.2.2.2.2;have HB35:Hid (∀W,LnS w B W C #[.int .i64 0,.int .i64 0]→True):=ab (fun _ _=>trivial)
     have Cq:w3.heap.size=((w3.setRow B C).setRow (B+1) #[.int .i64 0,.int .i64 0]).heap.size:=by simp
     have mh:Hid (S.tg.In ((w3.setRow B C).setRow (B+1) #[.int .i64 0,.int .i64 0])∧S.va.In ((w3.setRow B C).setRow (B+1) #[.int .i64 0,.int .i64 0])∧SLies (B+2) ((w3.setRow B C).setRow (B+1) #[.int .i64 0,.int .i64 0]) S):=ab (by
      have h1:=((cL.setRow (g:=B) (by have:=(aa H2).lt;omega) C).setRow (g:=B+1) (by have:=(aa H2).lt;omega) #[.int .i64 0,.int .i64 0])
      exact⟨h1.here.tg,h1.here.va,h1.mono (by have:=(aa H2).lt;omega)⟩)
     clear ou rg hr hE rl rk hb3 aU HR hC dI jP ir cA cL hPt hPv HTM HVM HB35 Cq;rw[aa gn];unfold cY;go_wp2_with (first
      | (refine bh rfl 30 _ _ rfl B C rfl rfl 30 Z24 (by with_reducible exact(aa H3).s) (de.trans (by rw[aa dp])) (by rw[aa dp];rfl) (aa lR) ?_)
      | (refine bh rfl 36 _ _ rfl (B+1) #[.int .i64 0,.int .i64 0] rfl rfl 36 #[.int .i64 (le:Int),.int .i64 (la:Int)] (by with_reducible exact(aa H4).f) fh rfl (by simp[Value.oneCell']) ?_)
      | fail)
     clear f0 f1 s2 s3 s4 s5 s6 s7 s8 s9 tD tC;generalize (w3.setRow B C).setRow (B+1) #[.int .i64 0,.int .i64 0]=w5 at *;clear H3 H4;have pq:=ab (sQ S.tg w5 (aa mh).1);unfold pv at pq
     cases hf:S.tg.fits
     ·rw[hf] at pq bN
      have HE:Hid (RR=.error (4,0)):=ab ((aa bN).trans (ac (fun q=>absurd q.1 (by decide))))
      clear bN hf;refine(aa pq).mono ?_;rintro e w6 ⟨rfl,hb6⟩;have H6:=ab ((aa H5).below hb6);have H7:=ab ((aa H6).st Z24);have H8:=ab ((aa H7).fa #[.int .i64 4,.int .i64 0]);clear hb6;go_wp2_with (first
       | (refine bh rfl 30 _ _ rfl B Z24 rfl rfl 30 C (by with_reducible exact(aa H6).s) de (aa dp) (SV.cells_one cc) ?_)
       | (refine bh rfl 36 _ _ rfl (B+1) #[.int .i64 4,.int .i64 0] rfl rfl 36 #[.int .i64 0,.int .i64 0] (by with_reducible exact(aa H7).f) fh rfl (by simp[Value.oneCell']) ?_)
       | fail)
      exact bK (qD _ _ B (B+1) Z24 #[.int .i64 4,.int .i64 0] (.bool false) rfl rfl rfl (aa H8).s (aa H8).f rfl rfl) rfl (aa gO 4 0 _ (aa HE) (aa H8).bel)
     ·rw[hf] at pq bN
      clear hf;refine(aa pq).mono ?_;rintro e w6 ⟨rfl,hb6⟩;have H6:=ab ((aa H5).below hb6);have kT:=ab ((aa mh).2.2.below hb6);have HVC:=ab (sQ S.va w6 (PT.In.later hb6 (aa mh).2.1));unfold pv at HVC;have s7:=gI (aa H6).s (aa rB).1;have s8:=gI (aa H6).s (aa rB).2.1;have s9:=gI (aa H6).s (aa rB).2.2.1;have tD:=gI (aa H6).s (aa rB).2.2.2.1;have tC:=gI (aa H6).s (aa rB).2.2.2.2;clear hb6 pq mh;go_wp2_with fail;clear s7 s8 s9 tD tC;refine(aa HVC).mono ?_;rintro e w7 ⟨rfl,hb7⟩;have H7:=ab ((aa H6).below hb7);have HL7:=ab ((aa kT).below hb7);clear hb7 HVC kT
      cases hf:S.va.fits
      ·rw[hf] at bN
       have HE:Hid (RR=.error (4,0)):=ab ((aa bN).trans (ac (fun q=>absurd q.2 (by decide))))
       clear bN hf;have H8:=ab ((aa H7).st Z24);have H9:=ab ((aa H8).fa #[.int .i64 4,.int .i64 0]);go_wp2_with (first
        | (refine bh rfl 30 _ _ rfl B Z24 rfl rfl 30 C (by with_reducible exact(aa H7).s) de (aa dp) (SV.cells_one cc) ?_)
        | (refine bh rfl 36 _ _ rfl (B+1) #[.int .i64 4,.int .i64 0] rfl rfl 36 #[.int .i64 0,.int .i64 0] (by with_reducible exact(aa H8).f) fh rfl (by simp[Value.oneCell']) ?_)
        | fail)
       exact bK (qD _ _ B (B+1) Z24 #[.int .i64 4,.int .i64 0] (.bool false) rfl rfl rfl (aa H9).s (aa H9).f rfl rfl) rfl (aa gO 4 0 _ (aa HE) (aa H9).bel)
      ·rw[hf] at bN
       have HE:Hid (RR=.ok (some P)):=ab ((aa bN).trans (af (by simp)))
       clear bN hf;have H8:=ab ((aa H7).st C);have H9:=ab ((aa H8).fa #[.int .i64 0,.int .i64 0]);go_wp2_with (first
        | (refine io rfl 30 _ rfl B rfl 30 C (0,0) _ (by with_reducible exact(aa H7).s) underlying30 rfl (de.trans (by rw[aa dp])) ?_)
        | (refine bh rfl 30 _ _ rfl B C rfl rfl 30 C (by with_reducible exact(aa H7).s) (de.trans (by rw[aa dp])) rfl (aa lR) ?_)
        | (refine bh rfl 36 _ _ rfl (B+1) #[.int .i64 0,.int .i64 0] rfl rfl 36 #[.int .i64 0,.int .i64 0] (by with_reducible exact(aa H8).f) fh rfl (by simp[Value.oneCell']) ?_)
        | fail)
       exact bK (qD _ _ B (B+1) C #[.int .i64 0,.int .i64 0] (.bool true) rfl rfl rfl (aa H9).s (aa H9).f (aa dp) rfl) rfl (aa kP _ _ ⟨(aa H9).bel,fun er a h=>(by rw[aa HE] at h;cases h),fun h=>(by rw[aa HE] at h;cases h),fun P' h=>(by
        rw[aa HE] at h;injection h with h;injection h with h
        subst h;exact⟨S,by rw[aa gn];rfl,aa HCAN,(((aa HL7).setRow (g:=B) (by omega) C).setRow (g:=B+1) (by omega) _).mono (by omega)⟩)⟩)
   ·have q0:((le:Int) !=0)=true:=by simp;omega
    have HE:Hid (RR=.error ((le:Int),la)):=ab ((aa bO).trans (af (fun q=>h0 (by omega))))
    clear h0 bO sL gG oC;go_wp2_with (first
     | (refine bh rfl 36 _ _ rfl (B+1) #[.int .i64 (le:Int),.int .i64 (la:Int)] rfl rfl 36 #[.int .i64 0,.int .i64 0] (by with_reducible exact(aa H1).f) fh rfl (by simp[Value.oneCell']) ?_)
     | fail)
    clear f0 f1 H1;generalize w1.setRow (B+1) #[.int .i64 (le:Int),.int .i64 (la:Int)]=w2 at *;have h6:=(aa H2).st Z24;have bm:LnS w B w2.drew Z24 #[.int .i64 (le:Int),.int .i64 (la:Int)]:=⟨(aa H2).bel.drew,(aa H2).s,(aa H2).f⟩;have lr:LnS w B (w2.drew.setRow B Z24) Z24 #[.int .i64 (le:Int),.int .i64 (la:Int)]:=bm.st Z24;have H7:=ab (lr.fa #[.int .i64 (le:Int),.int .i64 (la:Int)]);obtain⟨S0,aN⟩:∃S0:World→Prop,S0=fun W=>W.cell? ⟨B+1,0,none⟩=some (.int .i64 (le:Int))∧W.cell? ⟨B+1,1,none⟩=some (.int .i64 (la:Int)):=⟨_,rfl⟩
    have ap:=ab aN;have aW:Hid (∀W D,LnS w B W D #[.int .i64 (le:Int),.int .i64 (la:Int)]→S0 W):=ab (fun W D h=>by rw[aN];exact jX h.f)
    clear aN;have nH:=aa aW _ _ bm;refine gt 4 S0 ?_;intro F;refine aK F 0 ap nH ?_
    (try simp only[aH,aG])
    (try go_frame)
    refine aK F 1 ap nH ?_
    (try simp only[aH,aJ,aG])
    (try go_frame)
    refine ce 2 (fun K2 eD=> ?_)
    refine uc rfl 30 _ _ rfl B Z24 rfl rfl 30 Z24 bm.s de (rfl) (SV.cells_one cc) ?_;have nG:=aa aW _ _ lr;refine eD _ _ nG ?_
    (try simp only[aH,aJ,aG])
    (try go_frame)
    refine aK F 3 ap nG ?_
    (try simp only[aH,aJ,aG])
    (try go_frame)
    refine gy (by kernel_rfl) rfl (by kernel_rfl) (fun K4 bw=> ?_)
    refine uc rfl 36 _ _ rfl (B+1) #[.int .i64 (le:Int),.int .i64 (la:Int)] rfl rfl 36 #[.int .i64 (le:Int),.int .i64 (la:Int)] lr.f fh rfl (by simp[Value.oneCell']) ?_
    refine bw _ _ ?_
    (try simp only[aH,aJ,aG])
    (try go_frame)
    clear bw eD K4 K2 F nG nH lr bm h6 aW ap;go_wp2_with fail;exact bK (qD _ _ B (B+1) Z24 #[.int .i64 (le:Int),.int .i64 (la:Int)] (.bool false) rfl rfl rfl (aa H7).s (aa H7).f rfl rfl) rfl (aa gO (le:Int) la _ (aa HE) (aa H7).bel)
 ·have bO:=ab ((aa HQ).trans (ac (fun q=>hb q.1)))
  rw[db hb];clear hb HQ;go_wp2_with fail;refine(aa tX w0 (aa H0).bel).mono ?_;rintro e w1 ⟨v,rfl,aS,hb1⟩;have H1:=ab ((aa H0).below hb1);have gG:=ab (aa mj w0 w1 v aS (by have:=(aa H1).lt;omega))
  have H2:=ab ((aa H1).fa (tj le la));have dW:=ab (aa H0).lt;clear hb1 aS tX mj;unfold tj at H2;unfold tj;obtain⟨f0,f1⟩:=jX (aa H2).f
  by_cases h0:le=0
  ·have q0:((le:Int) !=0)=false:=by simp;omega
   have aU:=ab ((aa bO).trans (ac (fun q=>q h0)))
   have kU:=ab (aa sL h0);clear h0 bO sL;go_wp2_with (first
    | (refine bh rfl 36 _ _ rfl (B+1) #[.int .i64 (le:Int),.int .i64 (la:Int)] rfl rfl 36 #[.int .i64 0,.int .i64 0] (by with_reducible exact(aa H1).f) fh rfl (by simp[Value.oneCell']) ?_)
    | fail)
   obtain⟨g,hTK,lg⟩:=aa gG;have HR:=ab (aa oC _ v g (aa kU) (aa H2).bel (hTK.set (lg.imp id fun q=>by have:=aa dW;omega) #[.int .i64 (le:Int),.int .i64 (la:Int)]))
   clear f0 f1 hTK lg gG H1 oC;generalize w1.setRow (B+1) #[.int .i64 (le:Int),.int .i64 (la:Int)]=w2 at *;refine(aa HR).mono ?_;rintro e w3 ⟨hb3,ou,rg⟩;have H3:=ab ((aa H2).below hb3)
   cases hr:qQ s ll with
   | error x=>
    obtain⟨er,i⟩:=x;obtain⟨C,rfl,rl,rk⟩:=rg er i hr;have bX:=BX s ll er i hr;have hE:=aa aU;rw[hr] at hE;have HE:Hid (RR=.error (er,i)):=ab (hE);have q1:(er !=0)=true:=by simp;exact bX
    have H4:=ab ((aa H3).st C);have H5:=ab ((aa H4).fa #[.int .i64 er,.int .i64 (i:Int)]);have dp:=ab rl;have lR:=ab rk;obtain⟨f0,f1⟩:=jX (aa H5).f;clear ou rg hr hE rl rk hb3 aU HR bX;unfold cY;go_wp2_with (first
     | (refine bh rfl 30 _ _ rfl B C rfl rfl 30 Z24 (by with_reducible exact(aa H3).s) (de.trans (by rw[aa dp])) (by rw[aa dp];rfl) (aa lR) ?_)
     | (refine bh rfl 36 _ _ rfl (B+1) #[.int .i64 er,.int .i64 (i:Int)] rfl rfl 36 #[.int .i64 (le:Int),.int .i64 (la:Int)] (by with_reducible exact(aa H4).f) fh rfl (by simp[Value.oneCell']) ?_)
     | fail)
    generalize (w3.setRow B C).setRow (B+1) #[.int .i64 er,.int .i64 (i:Int)]=w5 at *;clear f0 f1;have h6:=(aa H5).st Z24;have bm:LnS w B w5.drew C #[.int .i64 er,.int .i64 (i:Int)]:=⟨(aa H5).bel.drew,(aa H5).s,(aa H5).f⟩;have lr:LnS w B (w5.drew.setRow B Z24) Z24 #[.int .i64 er,.int .i64 (i:Int)]:=bm.st Z24;have H7:=ab (lr.fa #[.int .i64 er,.int .i64 (i:Int)]);obtain⟨S0,aN⟩:∃S0:World→Prop,S0=fun W=>W.cell? ⟨B+1,0,none⟩=some (.int .i64 er)∧W.cell? ⟨B+1,1,none⟩=some (.int .i64 (i:Int)):=⟨_,rfl⟩
    have ap:=ab aN;have aW:Hid (∀W D,LnS w B W D #[.int .i64 er,.int .i64 (i:Int)]→S0 W):=ab (fun W D h=>by rw[aN];exact jX h.f)
    clear aN;have nH:=aa aW _ _ bm;refine gt 4 S0 ?_;intro F;refine aK F 0 ap nH ?_
    (try simp only[aH,aG])
    (try go_frame)
    refine aK F 1 ap nH ?_
    (try simp only[aH,aJ,aG])
    (try go_frame)
    refine ce 2 (fun K2 eD=> ?_)
    refine uc rfl 30 _ _ rfl B Z24 rfl rfl 30 C bm.s de (aa dp) (SV.cells_one cc) ?_;have nG:=aa aW _ _ lr;refine eD _ _ nG ?_
    (try simp only[aH,aJ,aG])
    (try go_frame)
    refine aK F 3 ap nG ?_
    (try simp only[aH,aJ,aG])
    (try go_frame)
    refine gy (by kernel_rfl) rfl (by kernel_rfl) (fun K4 bw=> ?_)
    refine uc rfl 36 _ _ rfl (B+1) #[.int .i64 er,.int .i64 (i:Int)] rfl rfl 36 #[.int .i64 er,.int .i64 (i:Int)] lr.f fh rfl (by simp[Value.oneCell']) ?_
    refine bw _ _ ?_
    (try simp only[aH,aJ,aG])
    (try go_frame)
    clear bw eD K4 K2 F nG nH lr bm h6 aW ap;go_wp2_with fail;exact bK (qD _ _ B (B+1) Z24 #[.int .i64 er,.int .i64 (i:Int)] (.bool false) rfl rfl rfl (aa H7).s (aa H7).f rfl rfl) rfl (aa gO er i _ (aa HE) (aa H7).bel)
   | ok x=>
    obtain⟨P,m⟩:=x;obtain⟨S,rfl,cA,cL⟩:=ou P m hr;have hE:=aa aU;rw[hr] at hE;have bN:Hid (RR=if P.tg.fits=true∧P.va.fits=true then .ok (some P) else .error (4,0)):=ab (hE);have hPt:P.tg.fits=S.tg.fits:=by rw[←cA];exact zG S.tg
    have hPv:P.va.fits=S.va.fits:=by rw[←cA];exact zG S.va
    rw[hPt,hPv] at bN;have HTM:=ab (fun W (hb:Below w3.heap.size w3 W)=>sQ S.tg W (PT.In.later hb cL.here.tg))
    have HVM:=ab (fun W (hb:Below w3.heap.size w3 W)=>sQ S.va W (PT.In.later hb cL.here.va))
    have HLIE:=ab cL;have HCAN:=ab cA;obtain⟨C,hC⟩:∃C,C=S.cells:=⟨_,rfl⟩;have dI:S.v=.agg C:=by rw[hC];rfl
    have gn:=ab dI;have rl:C.size=24:=by rw[hC];rfl
    have rk:C.all (·.oneCell')=true:=by rw[hC];exact SV.cells_one S
    have jP:C[2]? =some (.int .i64 S.tg.k)∧C[3]? =some (.string S.tg.t)∧C[4]? =some (.int .i64 S.tg.n)∧C[5]? =some (.string S.tg.nm)∧C[6]? =some (.slice S.tg.xa S.tg.len S.tg.cap):=by rw[hC];exact⟨rfl,rfl,rfl,rfl,rfl⟩
    have ir:C[7]? =some (.int .i64 S.va.k)∧C[8]? =some (.string S.va.t)∧C[9]? =some (.int .i64 S.va.n)∧C[10]? =some (.string S.va.nm)∧C[11]? =some (.slice S.va.xa S.va.len S.va.cap):=by rw[hC];exact⟨rfl,rfl,rfl,rfl,rfl⟩
    have dp:=ab rl;have lR:=ab rk;have rB:=ab ir;have H4:=ab ((aa H3).st C);have H5:=ab ((aa H4).fa #[.int .i64 0,.int .i64 0]);obtain⟨f0,f1⟩:=jX (aa H5).f;have s2:=gI (aa H5).s jP.1;have s3:=gI (aa H5).s jP.2.1;have s4:=gI (aa H5).s jP.2.2.1;have s5:=gI (aa H5).s jP.2.2.2.1;have s6:=gI (aa H5).s jP.2.2.2.2;have s7:=gI (aa H5).s ir.1;have s8:=gI (aa H5).s ir.2.1;have s9:=gI (aa H5).s ir.2.2.1;have tD:=gI (aa H5).s ir.2.2.2.1;have tC:=gI (aa H5).s ir.2.2.2.2;have HB35:Hid (∀W,LnS w B W C #[.int .i64 0,.int .i64 0]→True):=ab (fun _ _=>trivial)
    have Cq:w3.heap.size=((w3.setRow B C).setRow (B+1) #[.int .i64 0,.int .i64 0]).heap.size:=by simp
    have mh:Hid (S.tg.In ((w3.setRow B C).setRow (B+1) #[.int .i64 0,.int .i64 0])∧S.va.In ((w3.setRow B C).setRow (B+1) #[.int .i64 0,.int .i64 0])∧SLies (B+2) ((w3.setRow B C).setRow (B+1) #[.int .i64 0,.int .i64 0]) S):=ab (by
     have h1:=((cL.setRow (g:=B) (by have:=(aa H2).lt;omega) C).setRow (g:=B+1) (by have:=(aa H2).lt;omega) #[.int .i64 0,.int .i64 0])
     exact⟨h1.here.tg,h1.here.va,h1.mono (by have:=(aa H2).lt;omega)⟩)
    clear ou rg hr hE rl rk hb3 aU HR hC dI jP ir cA cL hPt hPv HTM HVM HB35 Cq;rw[aa gn];unfold cY;go_wp2_with (first
     | (refine bh rfl 30 _ _ rfl B C rfl rfl 30 Z24 (by with_reducible exact(aa H3).s) (de.trans (by rw[aa dp])) (by rw[aa dp];rfl) (aa lR) ?_)
     | (refine bh rfl 36 _ _ rfl (B+1) #[.int .i64 0,.int .i64 0] rfl rfl 36 #[.int .i64 (le:Int),.int .i64 (la:Int)] (by with_reducible exact(aa H4).f) fh rfl (by simp[Value.oneCell']) ?_)
     | fail)
    clear f0 f1 s2 s3 s4 s5 s6 s7 s8 s9 tD tC;generalize (w3.setRow B C).setRow (B+1) #[.int .i64 0,.int .i64 0]=w5 at *;clear H3 H4;have pq:=ab (sQ S.tg w5 (aa mh).1);unfold pv at pq
    cases hf:S.tg.fits
    ·rw[hf] at pq bN
     have HE:Hid (RR=.error (4,0)):=ab ((aa bN).trans (ac (fun q=>absurd q.1 (by decide))))
     clear bN hf;refine(aa pq).mono ?_;rintro e w6 ⟨rfl,hb6⟩;have H6:=ab ((aa H5).below hb6);have H7:=ab ((aa H6).st Z24);have H8:=ab ((aa H7).fa #[.int .i64 4,.int .i64 0]);clear hb6;go_wp2_with (first
      | (refine bh rfl 30 _ _ rfl B Z24 rfl rfl 30 C (by with_reducible exact(aa H6).s) de (aa dp) (SV.cells_one cc) ?_)
      | (refine bh rfl 36 _ _ rfl (B+1) #[.int .i64 4,.int .i64 0] rfl rfl 36 #[.int .i64 0,.int .i64 0] (by with_reducible exact(aa H7).f) fh rfl (by simp[Value.oneCell']) ?_)
      | fail)
     exact bK (qD _ _ B (B+1) Z24 #[.int .i64 4,.int .i64 0] (.bool false) rfl rfl rfl (aa H8).s (aa H8).f rfl rfl) rfl (aa gO 4 0 _ (aa HE) (aa H8).bel)
    ·rw[hf] at pq bN
     clear hf;refine(aa pq).mono ?_;rintro e w6 ⟨rfl,hb6⟩;have H6:=ab ((aa H5).below hb6);have kT:=ab ((aa mh).2.2.below hb6);have HVC:=ab (sQ S.va w6 (PT.In.later hb6 (aa mh).2.1));unfold pv at HVC;have s7:=gI (aa H6).s (aa rB).1;have s8:=gI (aa H6).s (aa rB).2.1;have s9:=gI (aa H6).s (aa rB).2.2.1;have tD:=gI (aa H6).s (aa rB).2.2.2.1;have tC:=gI (aa H6).s (aa rB).2.2.2.2;clear hb6 pq mh;go_wp2_with fail;clear s7 s8 s9 tD tC;refine(aa HVC).mono ?_;rintro e w7 ⟨rfl,hb7⟩;have H7:=ab ((aa H6).below hb7);have HL7:=ab ((aa kT).below hb7);clear hb7 HVC kT
     cases hf:S.va.fits
     ·rw[hf] at bN
      have HE:Hid (RR=.error (4,0)):=ab ((aa bN).trans (ac (fun q=>absurd q.2 (by decide))))
      clear bN hf;have H8:=ab ((aa H7).st Z24);have H9:=ab ((aa H8).fa #[.int .i64 4,.int .i64 0]);go_wp2_with (first
       | (refine bh rfl 30 _ _ rfl B Z24 rfl rfl 30 C (by with_reducible exact(aa H7).s) de (aa dp) (SV.cells_one cc) ?_)
       | (refine bh rfl 36 _ _ rfl (B+1) #[.int .i64 4,.int .i64 0] rfl rfl 36 #[.int .i64 0,.int .i64 0] (by with_reducible exact(aa H8).f) fh rfl (by simp[Value.oneCell']) ?_)
       | fail)
      exact bK (qD _ _ B (B+1) Z24 #[.int .i64 4,.int .i64 0] (.bool false) rfl rfl rfl (aa H9).s (aa H9).f rfl rfl) rfl (aa gO 4 0 _ (aa HE) (aa H9).bel)
     ·rw[hf] at bN
      have HE:Hid (RR=.ok (some P)):=ab ((aa bN).trans (af (by simp)))
      clear bN hf;have H8:=ab ((aa H7).st C);have H9:=ab ((aa H8).fa #[.int .i64 0,.int .i64 0]);go_wp2_with (first
       | (refine io rfl 30 _ rfl B rfl 30 C (0,0) _ (by with_reducible exact(aa H7).s) underlying30 rfl (de.trans (by rw[aa dp])) ?_)
       | (refine bh rfl 30 _ _ rfl B C rfl rfl 30 C (by with_reducible exact(aa H7).s) (de.trans (by rw[aa dp])) rfl (aa lR) ?_)
       | (refine bh rfl 36 _ _ rfl (B+1) #[.int .i64 0,.int .i64 0] rfl rfl 36 #[.int .i64 0,.int .i64 0] (by with_reducible exact(aa H8).f) fh rfl (by simp[Value.oneCell']) ?_)
       | fail)
      exact bK (qD _ _ B (B+1) C #[.int .i64 0,.int .i64 0] (.bool true) rfl rfl rfl (aa H9).s (aa H9).f (aa dp) rfl) rfl (aa kP _ _ ⟨(aa H9).bel,fun er a h=>(by rw[aa HE] at h;cases h),fun h=>(by rw[aa HE] at h;cases h),fun P' h=>(by
       rw[aa HE] at h;injection h with h;injection h with h
       subst h;exact⟨S,by rw[aa gn];rfl,aa HCAN,(((aa HL7).setRow (g:=B) (by omega) C).setRow (g:=B+1) (by omega) _).mono (by omega)⟩)⟩)
  ·have q0:((le:Int) !=0)=true:=by simp;omega
   have HE:Hid (RR=.error ((le:Int),la)):=ab ((aa bO).trans (af (fun q=>h0 (by omega))))
   clear h0 bO sL gG oC;go_wp2_with (first
    | (refine bh rfl 36 _ _ rfl (B+1) #[.int .i64 (le:Int),.int .i64 (la:Int)] rfl rfl 36 #[.int .i64 0,.int .i64 0] (by with_reducible exact(aa H1).f) fh rfl (by simp[Value.oneCell']) ?_)
    | fail)
   clear f0 f1 H1;generalize w1.setRow (B+1) #[.int .i64 (le:Int),.int .i64 (la:Int)]=w2 at *;have h6:=(aa H2).st Z24;have bm:LnS w B w2.drew Z24 #[.int .i64 (le:Int),.int .i64 (la:Int)]:=⟨(aa H2).bel.drew,(aa H2).s,(aa H2).f⟩;have lr:LnS w B (w2.drew.setRow B Z24) Z24 #[.int .i64 (le:Int),.int .i64 (la:Int)]:=bm.st Z24;have H7:=ab (lr.fa #[.int .i64 (le:Int),.int .i64 (la:Int)]);obtain⟨S0,aN⟩:∃S0:World→Prop,S0=fun W=>W.cell? ⟨B+1,0,none⟩=some (.int .i64 (le:Int))∧W.cell? ⟨B+1,1,none⟩=some (.int .i64 (la:Int)):=⟨_,rfl⟩
   have ap:=ab aN;have aW:Hid (∀W D,LnS w B W D #[.int .i64 (le:Int),.int .i64 (la:Int)]→S0 W):=ab (fun W D h=>by rw[aN];exact jX h.f)
   clear aN;have nH:=aa aW _ _ bm;refine gt 4 S0 ?_;intro F;refine aK F 0 ap nH ?_
   (try simp only[aH,aG])
   (try go_frame)
   refine aK F 1 ap nH ?_
   (try simp only[aH,aJ,aG])
   (try go_frame)
   refine ce 2 (fun K2 eD=> ?_)
   refine uc rfl 30 _ _ rfl B Z24 rfl rfl 30 Z24 bm.s de (rfl) (SV.cells_one cc) ?_;have nG:=aa aW _ _ lr;refine eD _ _ nG ?_
   (try simp only[aH,aJ,aG])
   (try go_frame)
   refine aK F 3 ap nG ?_
   (try simp only[aH,aJ,aG])
   (try go_frame)
   refine gy (by kernel_rfl) rfl (by kernel_rfl) (fun K4 bw=> ?_)
   refine uc rfl 36 _ _ rfl (B+1) #[.int .i64 (le:Int),.int .i64 (la:Int)] rfl rfl 36 #[.int .i64 (le:Int),.int .i64 (la:Int)] lr.f fh rfl (by simp[Value.oneCell']) ?_
   refine bw _ _ ?_
   (try simp only[aH,aJ,aG])
   (try go_frame)
   clear bw eD K4 K2 F nG nH lr bm h6 aW ap;go_wp2_with fail;exact bK (qD _ _ B (B+1) Z24 #[.int .i64 (le:Int),.int .i64 (la:Int)] (.bool false) rfl rfl rfl (aa H7).s (aa H7).f rfl rfl) rfl (aa gO (le:Int) la _ (aa HE) (aa H7).bel)
open Go.ChangeShapes Go.WideShapes Go.ChangeAt Go.RowKit Go.Deep
theorem Bk:prog.cellsOf 24=5:=by kernel_rfl
theorem JZ:prog.cellsOf 22=1:=by kernel_rfl
theorem J1:prog.cellsOf 2=1:=by kernel_rfl
theorem LD:prog.cellsOf 4=1:=by kernel_rfl
theorem J0:prog.cellsOf 28=1:=by kernel_rfl
theorem Ep:prog.cellsOf 30=24:=by kernel_rfl
theorem A6:prog.cellsOf 128=5:=by kernel_rfl
theorem CQ {H:Type} {enc:TypeId × Value→H} {W:World} {base m:Nat} {spare:Nat→Bool} {held:Bool} {cs:List Value} {pl:List MemPlace} {s:List UInt8} {h a b:Int} {q:Bool}
  (hd:DataW.trod enc prog W base spare held m 128 cs=some (.agg [.lit (.string s),.lit (.int .i64 h),.lit (.bool q),.lit (.int .i64 a),.lit (.int .i64 b)],pl)):
  cs=[.string ⟨s.toArray⟩,.int .i64 h,.bool q,.int .i64 a,.int .i64 b]:=by
 obtain⟨xs,n, -,hx,hl,lj,hf⟩:=xD underlying128 hd;rw[A6] at hl
 replace lj:xs.length=5:=lj
 simp only[nh,DataW.agg.injEq] at hx
 match xs,lj,cs,hl with
 | [x0,x1,x2,x3,x4],_,[c0,c1,c2,c3,c4],_=>
  have u0:=hf 0 _ rfl;have u1:=hf 1 _ rfl;have u2:=hf 2 _ rfl;have u3:=hf 3 _ rfl;have u4:=hf 4 _ rfl;simp[C9] at u0;simp[Da] at u1 u3 u4;simp[LD] at u2;obtain⟨t,eT,jB, -⟩:=qc underlying9 u0;obtain⟨k1,dF,tK, -⟩:=sd underlying3 u1;obtain⟨k2,jQ,hd2⟩:=DataW.trod_bool underlying4 u2;obtain⟨k3,ow,hd3, -⟩:=sd underlying3 u3;obtain⟨k4,mb,hd4, -⟩:=sd underlying3 u4;simp only[mH,mI] at eT dF jQ ow mb;subst eT dF jQ ow mb;have mL:=hx.1;rw[jB,tK,hd2,hd3,hd4] at mL;simp only[fM,jM,mH,DataW.lit.injEq,Lit.string.injEq,Lit.int.injEq,Lit.bool.injEq,mI,true_and] at mL;obtain⟨e0,e1,e2,e3,e4⟩:=mL;subst e1 e2 e3 e4;rw[e0]
theorem Hi (K:Nat) (h1:1≤K) (h2:K≤13):∃l,(Rows.laid_scanfail_syntax_shapes (H:=Unit))=.agg l∧l[K]? =some (.agg [.lit (.string (cI K).data.toList),.lit (.int .i64 (bs K)),.lit (.bool (ck K)),.lit (.int .i64 (bF K)),.lit (.int .i64 (bE K))]):=by
 refine⟨_,rfl, ?_⟩;have h:K=1∨K=2∨K=3∨K=4∨K=5∨K=6∨K=7∨K=8∨K=9∨K=10∨K=11∨K=12∨K=13:=by omega
 rcases h with rfl | rfl | rfl | rfl | rfl | rfl | rfl | rfl | rfl | rfl | rfl | rfl | rfl <;> rfl
theorem Iw {W:World} {rest:List (String × DataW Unit)} (h:laidMet prog (("scanfail/syntax.shapes",Rows.laid_scanfail_syntax_shapes)::rest) W):gJ W:=by
 obtain⟨ps,⟨g',t',cs,fuel,p,q,hg',ht',yM,hd, -, -⟩, -⟩:=h;have hg:prog.globalNamed "scanfail/syntax.shapes" =some 0:=by kernel_rfl
 have hty:(prog.globals[0]?).map (·.type)=some 129:=by kernel_rfl
 obtain rfl:=lK (hg.symm.trans hg');obtain rfl:=lK (hty.symm.trans ht');intro K h1 h2;obtain⟨l,hl,ma⟩:=Hi K h1 h2;rw[hl] at hd;obtain⟨xs,m, -,hx,ov,hxl,hf⟩:=DataW.trod_array underlying129 hd;simp only[nh,DataW.agg.injEq] at hx;have hK:=hf K (by omega)
 rw[A6] at hK;have hxK:∃y,xs[K]? =some y∧y.1=.agg [.lit (.string (cI K).data.toList),.lit (.int .i64 (bs K)),.lit (.bool (ck K)),.lit (.int .i64 (bF K)),.lit (.int .i64 (bE K))]:=by
  rw[hx.1,qb] at ma
  cases hy:xs[K]? with
  | none=>rw[hy] at ma;cases ma
  | some y=>rw[hy] at ma;exact⟨y,rfl,lK ma⟩
 obtain⟨⟨y1,y2⟩,hy,hyd⟩:=hxK;simp only at hyd;rw[hy,hyd] at hK;have aS:=CQ hK;have hc:∀j,j < 5→W.cell? ⟨0,K * 5+j,none⟩=((cs.toList.drop (K * 5)).take 5)[j]? :=fun j hj=>by
  have h3:=World.var?_cell hg yM (K * 5+j);rw[h3,List.getElem?_take,af hj,List.getElem?_drop,sa]
 rw[aS] at hc;exact⟨hc 0 (by omega),hc 1 (by omega),hc 2 (by omega),hc 3 (by omega),hc 4 (by omega)⟩
theorem Dw {H:Type} {enc:TypeId × Value→H} {W:World}:∀(N fuel:Nat) (cs:List Value) (d:DataW H) (pl:List MemPlace),Rows.uptoBulk d≤N→
  DataW.trod enc prog W 0 (fun _=>true) true fuel 24 cs=some (d,pl)→
  ∃T:PT,T.In W∧cs=[.int .i64 T.k,.string T.t,.int .i64 T.n,.string T.nm,.slice T.xa T.len T.cap]∧T.cnt≤Rows.uptoBulk d:=by
 intro N
 induction N with
 | zero=>
  intro fuel cs d pl hN h;obtain⟨xs,n, -,hx, -⟩:=xD underlying24 h;simp only[nh] at hx;rw[hx.1] at hN;simp[Rows.uptoBulk] at hN
 | succ N ihN=>
  intro fuel cs d pl hN h;obtain⟨xs,n, -,hx,hl,lj,hf⟩:=xD underlying24 h;rw[Bk] at hl;simp only[nh] at hx;obtain⟨rfl, -⟩:=hx
  replace lj:xs.length=5:=lj
  match xs,lj,cs,hl with
  | [x0,x1,x2,x3,x4],_,[c0,c1,c2,c3,c4],_=>
   have u0:=hf 0 _ rfl;have u1:=hf 1 _ rfl;have u2:=hf 2 _ rfl;have u3:=hf 3 _ rfl;have u4:=hf 4 _ rfl;simp[A7] at u0;simp[J1] at u2;simp[zu] at u1 u3;simp[JZ] at u4;obtain⟨k,eT,jB,fV⟩:=sd underlying3 u0;obtain⟨t,dF,tK,gP⟩:=qc underlying9 u1;obtain⟨m,jQ,hd2,fm⟩:=sd underlying2 u2;obtain⟨nm,ow,hd3,vd⟩:=qc underlying9 u3;simp only[mH,mI] at eT dF jQ ow;subst eT dF jQ ow;have r0: -9223372036854775808≤k∧k≤9223372036854775807:=by simpa [Lit.wf,show IntKind.i64.min= -9223372036854775808 from rfl] using fV
   have r2: -9223372036854775808≤m∧m≤9223372036854775807:=by simpa [Lit.wf,show IntKind.i64.min= -9223372036854775808 from rfl] using fm
   rcases open_slice underlying22 u4 with ⟨mb,cv⟩ | ⟨a,len,cap,mm,q,D,Pl,mb,_,vh,vj,qn,cv,gM⟩
   ·simp only[mH,mI] at mb
    subst mb;refine⟨.node k t m nm none 0 0 0 0 fun i=>i.elim0,⟨r0,gP,r2,vd,cU _,aw _,fun h=>absurd h (wu 0),fun i=>i.elim0⟩,rfl, ?_⟩
    simp[PT.cnt,fy,Rows.uptoBulk]
   ·simp only[mH,mI] at mb
    subst mb;simp only[if_true] at qn;rw[Bk] at gM;have gE:∀i,i < len→∃T:PT,T.In W∧W.cells? 0 (a.add (i * 5)) 5=some [.int .i64 T.k,.string T.t,.int .i64 T.n,.string T.nm,.slice T.xa T.len T.cap]∧T.cnt≤Rows.uptoBulk (D i):=by
     intro i hi;obtain⟨cs',h1,h2⟩:=gM i (by omega)
     have Cp:Rows.uptoBulk (D i)≤N:=by
      have h3:=Bp ((List.range len).map D) (D i) (List.mem_map.2 ⟨i,List.mem_range.2 hi,rfl⟩);rw[cv] at hN;simp[Rows.uptoBulk,Rows.uptoBulkAll] at hN;omega
     obtain⟨T,hT,aS,yT⟩:=ihN q cs' (D i) (Pl i) Cp h2;exact⟨T,hT,by rw[h1,aS],yT⟩
    obtain⟨b,o,spot⟩:=a;have ra:0 < len→spot=none:=fun hp=>by
     obtain⟨T, -,hc, -⟩:=gE 0 hp;obtain⟨-,bU,nj⟩:=wt hc
     simpa [Addr.add] using World.cell?_spot (nj 0 (by omega))
    refine⟨.node k t m nm (some ⟨b,o,spot⟩) b o len cap fun i=>(gE i.val i.isLt).choose,⟨r0,gP,r2,vd,by omega,vh,fun hp=> ?_,fun i=> ?_⟩,rfl, ?_⟩
    ·rw[ra hp]
    ·obtain⟨i,hi⟩:=i
     obtain⟨hT,hc, -⟩:=(gE i hi).choose_spec;show (W.cell? ⟨b,o+i * 5,none⟩=some (.int .i64 (gE i hi).choose.k)∧W.cell? ⟨b,o+i * 5+1,none⟩=some (.string (gE i hi).choose.t)∧W.cell? ⟨b,o+i * 5+2,none⟩=some (.int .i64 (gE i hi).choose.n)∧W.cell? ⟨b,o+i * 5+3,none⟩=some (.string (gE i hi).choose.nm)∧W.cell? ⟨b,o+i * 5+4,none⟩=some (gE i hi).choose.kv)∧PT.In W (gE i hi).choose;generalize (gE i hi).choose=T at hT hc ⊢;obtain⟨-,bU,nj⟩:=wt hc;obtain rfl:=ra (by omega)
     have hj:∀j,(h:j < 5)→W.cell? ⟨b,o+i * 5+j,none⟩=[Value.int .i64 T.k,.string T.t,.int .i64 T.n,.string T.nm,.slice T.xa T.len T.cap][j]? :=fun j h=>by
      have:=nj j h;rw[lL,lL] at this;rw[this]
     exact⟨⟨hj 0 (by omega),hj 1 (by omega),hj 2 (by omega),hj 3 (by omega),hj 4 (by omega)⟩,hT⟩
    ·have Au:=AW D (kf len 1 fun i=>((gE i.val i.isLt).choose).cnt) len (fun i hi=>by rw[ta hi];exact(gE i hi).choose_spec.2.2)
     rw[cv];simp only[PT.cnt,fM,jM,Rows.uptoBulk,Rows.uptoBulkAll];omega
theorem DV {H:Type} {enc:TypeId × Value→H} {W:World} {fuel:Nat} {c:Value} {d:DataW H} {pl:List MemPlace} (h:DataW.trod enc prog W 0 (fun _=>true) true fuel 28 [c]=some (d,pl)):∃N:NL,N.In W∧c=N.v:=by
 rcases open_slice underlying28 h with ⟨hc, -⟩ | ⟨a,len,cap,mm,q,D,Pl,hc,_,vh,vj,qn, -,gM⟩
 ·simp only[mH,mI] at hc
  subst hc;exact⟨⟨none,0,0,0,[]⟩,⟨aw _,cU _,fun h=>absurd h (wu 0),fun i t ht=>by simp at ht⟩,rfl⟩
 ·simp only[mH,mI] at hc
  subst hc;simp only[if_true] at qn;rw[zu] at gM;have gE:∀i,i < len→∃t:ByteArray,t.size≤maxLen∧W.cells? 0 (a.add (i * 1)) 1=some [.string t]:=by
   intro i hi;obtain⟨cs',h1,h2⟩:=gM i (by omega)
   obtain⟨t,ht, -,hs⟩:=qc underlying9 h2;exact⟨t,hs,by rw[h1,ht]⟩
  obtain⟨b,o,spot⟩:=a;have ra:0 < len→spot=none:=fun hp=>by
   obtain⟨T, -,hc⟩:=gE 0 hp;obtain⟨-,bU,nj⟩:=wt hc
   simpa [Addr.add] using World.cell?_spot (nj 0 (by omega))
  haveI:Inhabited ByteArray:=⟨ByteArray.empty⟩
  obtain⟨F,hF⟩:=choose_lt (α:=ByteArray) (p:=fun i t=>t.size≤maxLen∧W.cells? 0 ((⟨b,o,spot⟩:Addr).add (i * 1)) 1=some [.string t]) gE
  refine⟨⟨some ⟨b,o,spot⟩,b,o,cap,(List.range len).map F⟩,⟨by simpa using vh,by simpa using vj,fun hp=>by rw[ra (by simpa using hp)],fun i t ht=> ?_⟩,by unfold NL.v;simp⟩
  have ht:((List.range len).map F)[i]? =some t:=ht;rw[qb] at ht;rcases cG i len with hi | hi
  ·rw[List.getElem?_range hi] at ht
   obtain rfl:=(lK ht).symm;obtain⟨hs,hc⟩:=hF i hi;obtain⟨-,bU,nj⟩:=wt hc;obtain rfl:=ra (by omega)
   have:=nj 0 (by omega)
   rw[lL,lL,Nat.mul_one,Nat.add_zero] at this;exact⟨this,hs⟩
  ·rw[wq (by simpa using hi)] at ht
   cases ht
theorem JD {H:Type} {enc:TypeId × Value→H} {W:World} {fuel:Nat} {cs:List Value} {d:DataW H} {pl:List MemPlace} (h:DataW.trod enc prog W 0 (fun _=>true) true fuel 30 cs=some (d,pl)):
  ∃S:SV,S.In W∧cs=S.cells.toList:=by
 obtain⟨xs,n, -,hx,hl,lj,hf⟩:=xD underlying30 h;rw[Ep] at hl
 replace lj:xs.length=12:=lj
 match xs,lj,cs,hl with
 | [x0,x1,x2,x3,x4,x5,x6,x7,x8,x9,x10,x11],_,[c0,c1,c2,c3,c4,c5,c6,c7,c8,c9,sA,sy,vz,vy,vx,vw,vv,c17,c18,c19,c20,vu,nI,c23],_=>
  have u0:=hf 0 _ rfl;have u1:=hf 1 _ rfl;have u2:=hf 2 _ rfl;have u3:=hf 3 _ rfl;have u4:=hf 4 _ rfl;have u5:=hf 5 _ rfl;have u6:=hf 6 _ rfl;have u7:=hf 7 _ rfl;have u8:=hf 8 _ rfl;have u9:=hf 9 _ rfl;have u10:=hf 10 _ rfl;have u11:=hf 11 _ rfl;simp[zu] at u0 u5 u6 u9 u10 u11;simp[A7] at u1;simp[Bk] at u2 u3;simp[Bl] at u4;simp[J0] at u7 u8;obtain⟨lab,h0, -,s0⟩:=qc underlying9 u0;obtain⟨k,h1, -, -⟩:=sd underlying3 u1;obtain⟨tg,i2,h2, -⟩:=Dw _ n _ x2.1 x2.2 (aw _) u2;obtain⟨va,i3,h3, -⟩:=Dw _ n _ x3.1 x3.2 (aw _) u3;obtain⟨pa,i4,h4, -⟩:=KZ _ n _ x4.1 x4.2 (aw _) u4;obtain⟨nm,h5, -,s5⟩:=qc underlying9 u5;obtain⟨en,h6, -,s6⟩:=qc underlying9 u6;obtain⟨ps,i7,h7⟩:=DV u7;obtain⟨ls,i8,h8⟩:=DV u8;obtain⟨al,h9, -,s9⟩:=qc underlying9 u9;obtain⟨ye,ew, -,tD⟩:=qc underlying9 u10;obtain⟨no,eL, -,tC⟩:=qc underlying9 u11;simp only[mH,mI] at h0 h1 h2 h3 h4 h5 h6 h9 ew eL;refine⟨⟨lab,k,tg,va,pa,nm,en,ps,ls,al,ye,no⟩,⟨⟨s0,s5,s6,s9,tD,tC⟩,i2,i3,i4,i7,i8⟩, ?_⟩;obtain⟨a2,b2,c2',d2,e2⟩:=h2;obtain⟨a3,b3,c3',d3,e3⟩:=h3;obtain⟨a4,b4,c4',d4,e4⟩:=h4;rw[h0,h1,a2,b2,c2',d2,e2,a3,b3,c3',d3,e3,a4,b4,c4',d4,e4,h5,h6,h7,h8,h9,ew,eL];rfl
theorem Ez: "*" ++ "errors.errorString" = "*errors.errorString" :=by decide
theorem Kx (u:TypeId) (h:prog.typeName? 3 u=some "*errors.errorString"):u=233:=
 typeName_ptr_named (nm:= "errors.errorString") (by rw[Ez];kernel_rfl) (by kernel_rfl) (by decide) u (by rw[Ez];exact h)
theorem G4:∃l,(Rows.laid_scanfail_syntax_shapes (H:=Unit))=.agg l∧l[0]? =some (.agg [.lit (.string []),.lit (.int .i64 0),.lit (.bool false),.lit (.int .i64 0),.lit (.int .i64 0)]):=⟨_,rfl,rfl⟩
theorem Jp {W:World} {rest:List (String × DataW Unit)} (h:laidMet prog (("scanfail/syntax.shapes",Rows.laid_scanfail_syntax_shapes)::rest) W):W.cell? ⟨0,1,none⟩=some (.int .i64 0):=by
 obtain⟨ps,⟨g',t',cs,fuel,p,q,hg',ht',yM,hd, -, -⟩, -⟩:=h;have hg:prog.globalNamed "scanfail/syntax.shapes" =some 0:=by kernel_rfl
 have hty:(prog.globals[0]?).map (·.type)=some 129:=by kernel_rfl
 obtain rfl:=lK (hg.symm.trans hg');obtain rfl:=lK (hty.symm.trans ht');obtain⟨l,hl,ma⟩:=G4;rw[hl] at hd;obtain⟨xs,m, -,hx,ov,hxl,hf⟩:=DataW.trod_array underlying129 hd;simp only[nh,DataW.agg.injEq] at hx;have hK:=hf 0 (by omega)
 rw[A6] at hK;have hxK:∃y,xs[0]? =some y∧y.1=.agg [.lit (.string []),.lit (.int .i64 0),.lit (.bool false),.lit (.int .i64 0),.lit (.int .i64 0)]:=by
  rw[hx.1,qb] at ma
  cases hy:xs[0]? with
  | none=>rw[hy] at ma;cases ma
  | some y=>rw[hy] at ma;exact⟨y,rfl,lK ma⟩
 obtain⟨⟨y1,y2⟩,hy,hyd⟩:=hxK;simp only at hyd;rw[hy,hyd] at hK;have aS:=CQ hK;have hc:∀j,j < 5→W.cell? ⟨0,j,none⟩=((cs.toList.drop (0 * 5)).take 5)[j]? :=fun j hj=>by
  have h3:=World.var?_cell hg yM (j);rw[h3,List.getElem?_take,af hj,List.getElem?_drop,Nat.zero_mul,ni,sa]
 rw[aS] at hc;exact hc 1 (by omega)
theorem Ex {w:World} (h:laidMetH prog Rows.syntaxTurnsRow.laid w) (hm:∃m,w.cell? ⟨2,0,none⟩=some (.int .i64 m)):PrW w∧SyW w:=by
 have e:(Rows.syntaxTurnsRow.laid.filter fun x=>x.2.handleName?.isSome)=[]:=by kernel_rfl
 have h':laidMet prog Rows.syntaxTurnsRow.laid w:=by
  have hp:=h;unfold laidMetH at hp;rw[e] at hp;exact hp
 have h2:=h'.tail.tail;have he:=h2.tail.tail;have hp:=he.tail.tail;have hx:=hp.tail;have ht:Lib.TabIs prog w "internal/strconv.uint64pow10" .u64 Lib.pow10Tab:=Lib.tabIs_of_head (g:=3) (t:=203) (e:=187) (n:=20) (by kernel_rfl) (by kernel_rfl) underlying203 underlying187 (by kernel_rfl) (by kernel_rfl) (rest:=_) (show laidMet prog (("internal/strconv.uint64pow10",Lib.tabData .u64 Lib.pow10Tab)::_) w from h2)
 have hb:=Lib.tabBelow_of_tabIs ht;have hS:dA w:=Jo (rest:=_) hp;have hX:gJ w:=Iw (rest:=_) hx;have hg:prog.globalNamed "strconv.ErrRange" =some 9:=by kernel_rfl
 obtain⟨a0,s0,hv, -⟩:=laid_sentinel (show laidMet prog (("strconv.ErrRange",.iface "*errors.errorString" (.ptr (.agg [.lit (.string [118,97,108,117,101,32,111,117,116,32,111,102,32,114,97,110,103,101])])))::_) w from he) hg (ti:=135) (by kernel_rfl) underlying135 Kx underlying233 underlying235 rfl rfl underlying9 (by kernel_rfl) (by kernel_rfl)
 exact⟨⟨⟨hX,hm,hb⟩,⟨hS,hm,hb⟩⟩,⟨hS,hX,Jp (rest:=_) hx,⟨_,_,by have h3:=World.var?_cell hg hv 0;exact h3⟩⟩⟩
open Go.RowKit
structure PV where
 xa:Option Addr
 gb:Nat
 ob:Nat
 cap:Nat
def PV.v (V:PV) (n:Nat):Value:=.slice V.xa n V.cap
structure PIn (w:World) (V:PV) (P:List SV):Prop where
 cap:P.length≤V.cap
 max:V.cap≤maxLen
 at_:0 < P.length→V.xa=some ⟨V.gb,V.ob,none⟩
 row:∀(i:Nat) S,P[i]? =some S→w.rangeAt V.gb (V.ob+i * 24) S.cells.toList∧S.In w
theorem xe (S:SV):S.cells.size=24:=rfl
theorem yw {g o n cap i:Nat} (hi:i < n) (w:World):
  (Instr.indexAt 43 (.slice (some ⟨g,o,none⟩) n cap) (.int .i64 (i:Int))).run prog w=.ok (.pointer (some ⟨g,o+i * 24,none⟩)) w:=by
 have h0:(0:Int)≤(i:Int)∧(i:Int) < (n:Int):=by omega
 cases hq:prog.info? 30 with
 | none=>have:=AZ;simp[hq] at this
 | some x=>
  have hz:x.size=24:=by have:=AZ;simpa [hq] using this
  simp[Instr.indexAt,asIntOf,run_underlying underlying43,h0,sizeOf,typeInfo,hq,hz,Addr.add_lit];intro h;omega
def cT (S:SV):List Value:=S.cells.toList
theorem Gh (S:SV):(cT S).length=24:=xe S
theorem cT_one:∀(S:SV),∀u ∈ cT S,u.oneCell'=true:=fun S u hu=>(Array.all_eq_true_iff_forall_mem.1 (SV.cells_one S)) u (by simpa [cT] using hu)
theorem L8:(prog.info? 30).map (fun i=>(i.zero,i.size,i.bytes))=some (some (.agg Z24),24,368):=by kernel_rfl
theorem M4 {w:World} {g:Nat} {S:SV} (h:w.heap[g]? =some (.cells S.cells 30 (0,0))):∀k u,(cT S)[k]? =some u→w.cell? ⟨g,k,none⟩=some u:=fun k u hu=>by
 rw[eB _ _ _ _ _ _ h,←sa];exact hu
theorem F4:∀(L:List Value) (_:L.length=24),List.foldl (fun (cs:Array Value) (x:Value × Nat)=>cs.setIfInBounds x.snd x.fst) Z24 L.zipIdx=L.toArray
 | [x0,x1,x2,x3,x4,x5,x6,x7,x8,x9,x10,x11,x12,x13,x14,x15,x16,x17,x18,x19,x20,x21,x22,x23],_=>by kernel_rfl
theorem KF {w:World} {B:Nat} {v:Value} {P:List SV} (h:bP w B 30 24 cT v P) (hS:∀S ∈ P,∀W,Below w.heap.size w W→S.In W):∃V:PV,v=V.v P.length∧∀W,Below w.heap.size w W→PIn W V P:=by
 obtain⟨a,cap,rfl,hn,hc⟩:=h.len;rcases Nat.eq_zero_or_pos P.length with h0 | h0
 ·refine⟨⟨a,0,0,cap⟩,rfl,fun W q=>⟨hc, ?_,fun hp=>by omega,fun i S hi=>by have:=(mG.1 hi).1;omega⟩⟩
  rcases h.2 with ⟨e,_⟩ | ⟨g,cap',cur,e,_,_,h1,h2,_⟩
  ·injection e with _ _ e3;subst e3;exact cU _
  ·injection e with _ _ e3;subst e3;exact h2
 ·obtain⟨g,cap',hv,h1,h2⟩:=h.form (fun e=>by rw[e] at h0;simp at h0)
  injection hv with e1 _ e3
  subst e1 e3;refine⟨⟨some ⟨g,0,none⟩,g,0,cap⟩,rfl,fun W q=>⟨h1,h2,fun _=>rfl,fun i S hi=>⟨fun j u hj=> ?_,hS S (oS hi) W q⟩⟩⟩
  have:=av q (h.cell Gh rfl hi (show (cT S)[j]? =some u from hj));rw[show (0:Nat)+i * 24+j=i * 24+j by omega]
  exact this
theorem PIn.later {w w':World} {V:PV} {P:List SV} (h:PIn w V P) (hb:Below w.heap.size w w'):PIn w' V P:=
 ⟨h.cap,h.max,h.at_,fun i S hS=>⟨fun j v hj=>av hb ((h.row i S hS).1 j v hj),(h.row i S hS).2.later hb⟩⟩
open Go.RowKit
theorem hJ {w a b:World} (h:Below w.heap.size w a) (k:Below a.heap.size a b):Below w.heap.size w b:=h.trans (k.mono h.size)
theorem KB:∀A B:PT,∀w:World,A.In w→B.In w→A.can=B.can→Calls prog 26 #[pv A,pv B] w fun e w'=>e=.returned (.bool true)∧Below w.heap.size w w':=PT.ind fun A ih B w hA hB h=>by
 obtain⟨e1,e2,e3,e4,e5,e6⟩:=DC h;have HA:=ab hA;have HB:=ab hB;have HL:=ab e5;have IH:=ab (fun j hj=>ih j hj (B.kid j))
 have H6:=ab e6;have je:=hA.max;unfold maxLen at je;unfold pv;rw[e1,e2,e3,e4,e5];have bd:Below w.heap.size w ((w.alloc (.cells #[.int .i64 A.k,.string A.t,.int .i64 A.n,.string A.nm,.slice A.xa A.len A.cap] 27)).alloc (.cells #[.int .i64 A.k,.string A.t,.int .i64 A.n,.string A.nm,.slice B.xa A.len B.cap] 27)):=(ba _).alloc (by simp) _
 have ga:((w.alloc (.cells #[.int .i64 A.k,.string A.t,.int .i64 A.n,.string A.nm,.slice A.xa A.len A.cap] 27)).alloc (.cells #[.int .i64 A.k,.string A.t,.int .i64 A.n,.string A.nm,.slice B.xa A.len B.cap] 27)).heap[w.heap.size]? =some (.cells #[.int .i64 A.k,.string A.t,.int .i64 A.n,.string A.nm,.slice A.xa A.len A.cap] 27 (0,0)):=ci (by simp) (ax rfl)
 have gb:((w.alloc (.cells #[.int .i64 A.k,.string A.t,.int .i64 A.n,.string A.nm,.slice A.xa A.len A.cap] 27)).alloc (.cells #[.int .i64 A.k,.string A.t,.int .i64 A.n,.string A.nm,.slice B.xa A.len B.cap] 27)).heap[w.heap.size+1]? =some (.cells #[.int .i64 A.k,.string A.t,.int .i64 A.n,.string A.nm,.slice B.xa A.len B.cap] 27 (0,0)):=ax (by simp)
 have H0:=ab (And.intro bd (And.intro ga gb));clear bd ga gb hA hB h e1 e2 e3 e4 e5 e6 ih;go_enter func26,ntmps26;go_wp2_with fail;generalize ((w.alloc (.cells #[.int .i64 A.k,.string A.t,.int .i64 A.n,.string A.nm,.slice A.xa A.len A.cap] 27)).alloc (.cells #[.int .i64 A.k,.string A.t,.int .i64 A.n,.string A.nm,.slice B.xa A.len B.cap] 27))=W1 at *;go_loopw [44] (fun x wr=>∃k:Nat,k≤A.len∧x=.int .i64 (k:Int)∧Hid (Below W1.heap.size W1 wr)) (fun x _=>A.len - (intOf x).toNat)
 case atStart=>exact⟨0,cU _,rfl,aV _ _⟩
 case round=>
  obtain⟨k,hk,rfl,ks⟩:=hrel;rcases cG k A.len with au | gD
  ·have g1:(k:Int) < (A.len:Int):=by omega
   have HBw:=ab (hJ (aa H0).1 (aa ks));have wA:k < B.len:=by rw[aa HL];exact au
   have lo:=kid_at (aa HA) au;have hib:=kid_at (aa HB) wA;rw[aa HL] at hib;have bq:=(aa HA).cells au;have hKB:=(aa HB).cells wA;unfold PT.kv at bq hKB;have HC:=ab (fun W (hb:Below w.heap.size w W)=>aa IH k au W (PT.In.later hb ((aa HA).kids au)) (PT.In.later hb ((aa HB).kids wA)) (aa H6 k au))
   generalize A.kid k=P at *;generalize B.kid k=Q at *;unfold pv at HC;have y:=(ee (an (aa H0).2.1 (aa ks))).2.2.2.2;have z:=(ee (an (aa H0).2.2 (aa ks))).2.2.2.2;have HK:Hid (∀w',Below wr.heap.size wr w'→(w'.cell? ⟨w.heap.size,4,none⟩=some (.slice A.xa A.len A.cap)∧w'.cell? ⟨w.heap.size+1,4,none⟩=some (.slice B.xa A.len B.cap)∧w'.cell? ⟨A.b,A.o+k * 5,none⟩=some (.int .i64 P.k)∧w'.cell? ⟨A.b,A.o+k * 5+1,none⟩=some (.string P.t)∧w'.cell? ⟨A.b,A.o+k * 5+2,none⟩=some (.int .i64 P.n)∧w'.cell? ⟨A.b,A.o+k * 5+3,none⟩=some (.string P.nm)∧w'.cell? ⟨A.b,A.o+k * 5+4,none⟩=some (.slice P.xa P.len P.cap)∧w'.cell? ⟨B.b,B.o+k * 5,none⟩=some (.int .i64 Q.k)∧w'.cell? ⟨B.b,B.o+k * 5+1,none⟩=some (.string Q.t)∧w'.cell? ⟨B.b,B.o+k * 5+2,none⟩=some (.int .i64 Q.n)∧w'.cell? ⟨B.b,B.o+k * 5+3,none⟩=some (.string Q.nm)∧w'.cell? ⟨B.b,B.o+k * 5+4,none⟩=some (.slice Q.xa Q.len Q.cap))):=ab (fun w' hB=>by
    have hw:=aq (aa HBw) hB;obtain⟨a0,a1,a2,a3,a4⟩:=bq;obtain⟨b0,b1,b2,b3,b4⟩:=hKB;exact⟨av hB y,av hB z,av hw a0,av hw a1,av hw a2,av hw a3,av hw a4,av hw b0,av hw b1,av hw b2,av hw b3,av hw b4⟩)
   obtain⟨u1,u2,a0,a1,a2,a3,a4,b0,b1,b2,b3,b4⟩:=aa HK wr (aV _ _);clear bq hKB y z;go_wp2_with fail;have hA:Below wr.heap.size wr wr.drew:=(aV _ _).drew;go_region_held3 (fun w'=>w'.cell? ⟨w.heap.size,4,none⟩=some (.slice A.xa A.len A.cap)∧w'.cell? ⟨w.heap.size+1,4,none⟩=some (.slice B.xa A.len B.cap)∧w'.cell? ⟨A.b,A.o+k * 5,none⟩=some (.int .i64 P.k)∧w'.cell? ⟨A.b,A.o+k * 5+1,none⟩=some (.string P.t)∧w'.cell? ⟨A.b,A.o+k * 5+2,none⟩=some (.int .i64 P.n)∧w'.cell? ⟨A.b,A.o+k * 5+3,none⟩=some (.string P.nm)∧w'.cell? ⟨A.b,A.o+k * 5+4,none⟩=some (.slice P.xa P.len P.cap)∧w'.cell? ⟨B.b,B.o+k * 5,none⟩=some (.int .i64 Q.k)∧w'.cell? ⟨B.b,B.o+k * 5+1,none⟩=some (.string Q.t)∧w'.cell? ⟨B.b,B.o+k * 5+2,none⟩=some (.int .i64 Q.n)∧w'.cell? ⟨B.b,B.o+k * 5+3,none⟩=some (.string Q.nm)∧w'.cell? ⟨B.b,B.o+k * 5+4,none⟩=some (.slice Q.xa Q.len Q.cap))
    ((refine aa HK _ ?_;with_reducible exact hA))
    ((go_at_call 26;(with_reducible refine(aa HC _ (aq (aa HBw) hA)).mono ?_);rintro e w4 ⟨rfl,hb4⟩;have hA:=aq hA hb4;clear hb4))
   all_goals have HZ:=ab (hJ (aa ks) hA)
   all_goals clear a0 a1 a2 a3 a4 b0 b1 b2 b3 b4 u1 u2 HK HC lo hib
   all_goals go_wp2_with fail
   all_goals exact⟨⟨k+1,by omega,rfl,HZ⟩,by simp[intOf];omega⟩
  ·obtain rfl:k=A.len:=by omega
   have g1:¬(A.len:Int) < (A.len:Int):=by omega
   go_wp2_with fail;go_ret;exact⟨rfl,hJ (aa H0).1 (aa ks)⟩
end Go.Proofs.YtlmnjbipfacniaaGreatDoor
