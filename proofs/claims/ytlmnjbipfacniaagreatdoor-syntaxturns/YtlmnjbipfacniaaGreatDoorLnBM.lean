/- The reader of lines: a line. A cell of a block. How a line's -/
import Derived.Test.YtlmnjbipfacniaaGreatDoorPrefLibM
import Derived.Test.YtlmnjbipfacniaaGreatDoorSyKM
import Derived.Test.YtlmnjbipfacniaaGreatDoorStAM
import Derived.Test.YtlmnjbipfacniaaGreatDoorPatBaseM
set_option maxRecDepth 100000
set_option maxHeartbeats 8000000
namespace Go.Proofs.YtlmnjbipfacniaaGreatDoor
open Go.Proofs.Tryz
open Go.RowKit
def Cv (s:ByteArray) (w:World) (e:Ending) (w':World):Prop:=
 Below w.heap.size w w'∧(∀er a,mC s=.error (er,a)→e=.returned (.tuple #[bh.v,.bool false,du er a]))∧(mC s=.ok none→e=.returned (.tuple #[bh.v,.bool false,du 0 0]))∧
  (∀P,mC s=.ok (some P)→∃S:SV,e=.returned (.tuple #[S.v,.bool true,du 0 0])∧S.can=P∧SLies w.heap.size w' S)
structure LnS (w:World) (B:Nat) (W:World) (C F:Array Value):Prop where
 bel:Below B w W
 s:W.heap[B]? =some (.cells C 30 (0,0))
 f:W.heap[B+1]? =some (.cells F 36 (0,0))
section
variable {w W W':World} {B:Nat} {C F:Array Value}
theorem LnS.st (h:LnS w B W C F) (D:Array Value):LnS w B (W.setRow B D) D F:=⟨eL h.bel B (ax _) D,cm _ _ _ _ _ _ h.s,(dH W B (B+1) D (by omega)).trans h.f⟩
theorem LnS.fa (h:LnS w B W C F) (D:Array Value):LnS w B (W.setRow (B+1) D) C D:=⟨eL h.bel (B+1) (by omega) D,(dH W (B+1) B D (by omega)).trans h.s,cm _ _ _ _ _ _ h.f⟩
theorem LnS.lt (h:LnS w B W C F):B+1 < W.heap.size:=(bC.1 h.f).1
theorem LnS.below (h:LnS w B W C F) (hb:Below W.heap.size W W'):LnS w B W' C F:=⟨h.bel.trans (hb.mono (by have:=h.lt;omega)),am h.s hb,am h.f hb⟩
end
theorem qh (tmps:Array Value) (W:World) (gp gf:Nat) (cs fs:Array Value) (b:Value) (h2:tmps.getD 2 undef=.pointer (some ⟨gp,0,none⟩)) (h3:tmps.getD 3 undef=b) (h4:tmps.getD 4 undef=.pointer (some ⟨gf,0,none⟩)) (hp:W.heap[gp]? =some (.cells cs 30 (0,0))) (hf:W.heap[gf]? =some (.cells fs 36 (0,0))) (kw:cs.size=24) (hfs:fs.size=2):
  (results Tryz.f8 tmps).run prog W=.ok (.tuple #[.agg cs,b,.agg fs]) W:=by
 have h2':tmps[2]?.getD undef=.pointer (some ⟨gp,0,none⟩):=by simpa using h2
 have h3':tmps[3]?.getD undef=b:=by simpa using h3
 have h4':tmps[4]?.getD undef=.pointer (some ⟨gf,0,none⟩):=by simpa using h4
 have e1:=tn (P:=prog) W gp 30 30 cs (0,0) _ hp underlying30 rfl (by rw[kw];exact cn)
 have e2:=tn (P:=prog) W gf 36 36 fs (0,0) _ hf underlying36 rfl (by rw[hfs];exact fy)
 simp[results,Tryz.results8,h2',h3',h4',asAddr,e1,e2]
theorem Lp (s:ByteArray):Lib.hasPrefix s.data.toList [42]=decide (aj s 0=42):=by
 unfold Lib.hasPrefix aj
 cases h:s.data.toList with
 | nil=>rfl
 | cons c r=>
  show ((42:UInt8)==c && List.isPrefixOf [] r)=decide (c.toNat=42);rw[show List.isPrefixOf ([]:List UInt8) r=true from by cases r <;> rfl,Bool.and_true]
  by_cases q:c=42
  ·subst q;rfl
  ·rw[dh (fun z:c.toNat=42=>q (tm.1 (z.trans rfl))),pL]
   exact fun z=>q z.symm
theorem zM (T:PT):T.can.fits=T.fits:=by unfold PT.fits;rw[Ac,Ab]
theorem Kf (s:ByteArray) (h:(gc s).2.1=0):s.size≤2000:=by
 unfold gc at h;split at h
 ·exact absurd h (by decide)
 ·omega
theorem Lf {w w':World} {v:Value} {s:ByteArray} (h:cc w' w.heap.size 102 3 nR v (gc s).1) (h0:0 < w'.heap.size):∃g,SyTk w' v (gc s).1 g∧((gc s).1=[]∨w.heap.size≤g):=by
 rcases h.2 with ⟨rfl,e0⟩ | ⟨g,cap,cur,rfl,lc,vn,eI,jr, -, -⟩
 ·refine⟨0,⟨⟨none,0,0,by rw[e0],by omega,cU _,fun q=>absurd (kJ e0) q,fun i t ht=> ?_⟩,h0,Bs s⟩,.inl (kJ e0)⟩
  rw[kJ e0] at ht;cases ht
 ·refine⟨g,⟨⟨_,cap,0,rfl,eI,jr,fun _=>rfl,fun i t ht=> ?_⟩,(bC.1 vn).1,Bs s⟩,.inr lc⟩
  rw[oI];exact⟨h.cell zN rfl ht (k:=0) rfl,h.cell zN rfl ht (k:=1) rfl,h.cell zN rfl ht (k:=2) rfl⟩
theorem SyTk.set {w:World} {v:Value} {l:List Tk} {g k:Nat} (h:SyTk w v l g) (hg:l=[]∨k < g) (D:Array Value):SyTk (w.setRow k D) v l g:=by
 obtain⟨⟨xa,cap,off,h1,h2,h3,h4,h5⟩,h6,h7⟩:=h;refine⟨⟨xa,cap,off,h1,h2,h3,h4,fun i t ht=> ?_⟩,by simpa using h6,h7⟩
 rcases hg with hg | hg
 ·subst hg;cases ht
 ·exact h5.same (dH w k g D (by omega)) i t ht
theorem gO {w:World} {g:Nat} {C:Array Value} (h:w.heap[g]? =some (.cells C 30 (0,0))) {k:Nat} {u:Value} (hk:C[k]? =some u):w.cell? ⟨g,k,none⟩=some u:=by rw[eX _ _ _ _ _ _ h];exact hk
theorem ui {o:Oper} {a:Act} {w:World} {K:Act→World→Prop} {Q:Exit→Act→World→Prop} {E:Prop} {ops:Array Oper} (qN:o.guard=none) (ty:TypeId) (x y:Operand) (ho:o.op=.store ty x y)
  (g:Nat) (cells:Array Value) (hx:a.eval x=.pointer (some ⟨g,0,none⟩)) (hy:a.eval y=.agg cells) (t:TypeId) (old:Array Value) (hg:w.heap[g]? =some (.cells old t (0,0))) (hi:(prog.info? ty).map (·.size)=some cells.size)
  (AH:old.size=cells.size) (h1:cells.all (·.oneCell')=true) (h:K (a.put o.dst undef) (w.setRow g cells)):if Region.wanted o (yielded ops a.tmps)=true then Oper.wp prog o a w K Q else E:=by
 have hw:Region.wanted o (yielded ops a.tmps)=true:=by simp[Region.wanted,qN]
 rw[af hw];exact wp_store_row ty x y ho g cells hx hy t old hg hi AH h1 h
theorem A9 (s:ByteArray) (w:World) (hs:s.size≤maxLen) (hW:SyW w) (m:Int) (hm:w.cell? ⟨2,0,none⟩=some (.int .i64 m)):Calls prog 8 #[.string s] w fun e w'=>Cv s w e w':=by
 obtain⟨B,hB⟩:∃B,B=w.heap.size:=⟨_,rfl⟩;obtain⟨w0,gh⟩:∃w0,w0=(w.alloc (.cells Z24 30)).alloc (.cells #[.int .i64 0,.int .i64 0] 36):=⟨_,rfl⟩;have H0:Hid (LnS w B w0 Z24 #[.int .i64 0,.int .i64 0]):=ab (by
  refine⟨?_, ?_, ?_⟩
  ·rw[gh,hB];exact(ba _).alloc (by simp) _
  ·rw[gh,hB];exact bL (by simp) (aw rfl)
  ·rw[gh,hB];exact aw (by simp))
 have HPF:=ab (fun W=>show Calls prog 21 #[.string s,.string ⟨#[42]⟩] W fun e w'=>e=.returned (.bool (decide (aj s 0=42)))∧w'=W from Lp s▸Tryz.strings_HasPrefix s ⟨#[42]⟩ W)
 have ua:=ab (fun W (hb:Below B w W)=>LM s W hs m (av (hB▸hb) hm))
 have ss:=ab (fun W v g h1 (hb:Below B w W) h=>Hw s (gc s).1 v g W h1 (hW.later (hB▸hb)) h)
 obtain⟨RR,bM⟩:∃RR,RR=mC s:=⟨_,rfl⟩;have kQ:=ab (show ∀e w',(Below B w w'∧(∀er a,RR=.error (er,a)→e=.returned (.tuple #[bh.v,.bool false,du er a]))∧(RR=.ok none→e=.returned (.tuple #[bh.v,.bool false,du 0 0]))∧
  (∀P,RR=.ok (some P)→∃S:SV,e=.returned (.tuple #[S.v,.bool true,du 0 0])∧S.can=P∧SLies B w' S))→Cv s w e w' from fun e w' h=>by rw[hB,bM] at h;exact h)
 have aA:∀er a W,RR=.error (er,a)→Below B w W→Cv s w (.returned (.tuple #[bh.v,.bool false,du er a])) W:=fun er a W h hb=>aa kQ _ _ ⟨hb,fun er' a' h'=>(by rw[h] at h';injection h' with h';injection h' with h1 h2;rw[h1,h2]),fun h'=>(by rw[h] at h';cases h'),fun P h'=>(by rw[h] at h';cases h')⟩
 have gV:=ab aA;have HQ:=ab (show RR=if aj s 0=42∧s.size≤2000 then .ok none else if (gc s).2.1≠0 then .error ((gc s).2.1,(gc s).2.2) else match oG s (gc s).1 with
  | .error e=>.error e
  | .ok x=>if x.1.tg.fits=true∧x.1.va.fits=true then .ok (some x.1) else .error (4,0) from bM)
 have HWD:Hid ((w.alloc (.cells Z24 30)).alloc (.cells #[.int .i64 0,.int .i64 0] 36)=w0):=ab (gh.symm);have HB:=ab hB;have mo:=ab (Kf s);have mj:=ab (fun (W W':World) (v:Value) (h:cc W' W.heap.size 102 3 nR v (gc s).1) h0=>Lf h h0)
 clear gh bM hB hs hm hW aA;unfold wV at ua;generalize (gc s).2.2=la at *;generalize eI:(gc s).2.1=le at *;clear eI;generalize (gc s).1=ll at *;go_enter func8,ntmps8;go_wp2_with fail;rw[aa HWD];rw[show w.heap.size=B from (aa HB).symm];refine(aa HPF w0).mono ?_;rintro e w0 ⟨rfl,rfl⟩;clear HPF HWD HB;generalize aj s 0=b at *
 by_cases hb:b=42
 ·rw[eW hb]
  by_cases h2:s.size≤2000
  ·have HE:Hid (RR=.ok none):=ab (by rw[aa HQ,af ⟨hb,h2⟩])
   have q2:(s.size:Int)≤2000:=by omega
   clear hb h2 HQ;have H1:=ab ((aa H0).st Z24);have H2:=ab ((aa H1).fa #[.int .i64 0,.int .i64 0]);go_wp2_with (first
    | (refine aX rfl 30 _ _ rfl B Z24 rfl rfl 30 Z24 (by with_reducible exact(aa H0).s) cn rfl (SV.cells_one bh) ?_)
    | (refine aX rfl 36 _ _ rfl (B+1) #[.int .i64 0,.int .i64 0] rfl rfl 36 #[.int .i64 0,.int .i64 0] (by with_reducible exact(aa H1).f) fy rfl (by simp[Value.oneCell']) ?_)
    | fail)
   exact ck (qh _ _ B (B+1) Z24 #[.int .i64 0,.int .i64 0] (.bool false) rfl rfl rfl (aa H2).s (aa H2).f rfl rfl) rfl (aa kQ _ _ ⟨(aa H2).bel,fun er a h=>(by rw[aa HE] at h;cases h),fun _=>rfl,fun P h=>(by rw[aa HE] at h;cases h)⟩)
  ·have bQ:=ab ((aa HQ).trans (ac (fun q=>h2 q.2)))
   have q2:(2000:Int) < (s.size:Int):=by omega
   clear hb h2 HQ;go_wp2_with fail;refine(aa ua w0 (aa H0).bel).mono ?_;rintro e w1 ⟨v,rfl,aV,hb1⟩;have H1:=ab ((aa H0).below hb1);have gM:=ab (aa mj w0 w1 v aV (by have:=(aa H1).lt;omega))
   have H2:=ab ((aa H1).fa (sX le la));have dR:=ab (aa H0).lt;clear hb1 aV ua mj;unfold sX at H2;unfold sX;obtain⟨f0,f1⟩:=jj (aa H2).f
   by_cases h0:le=0
   ·have q0:((le:Int) !=0)=false:=by simp;omega
    have aS:=ab ((aa bQ).trans (ac (fun q=>q h0)))
    have lQ:=ab (aa mo h0);clear h0 bQ mo;go_wp2_with (first
     | (refine aX rfl 36 _ _ rfl (B+1) #[.int .i64 (le:Int),.int .i64 (la:Int)] rfl rfl 36 #[.int .i64 0,.int .i64 0] (by with_reducible exact(aa H1).f) fy rfl (by simp[Value.oneCell']) ?_)
     | fail)
    obtain⟨g,hTK,lc⟩:=aa gM;have HR:=ab (aa ss _ v g (aa lQ) (aa H2).bel (hTK.set (lc.imp id fun q=>by have:=aa dR;omega) #[.int .i64 (le:Int),.int .i64 (la:Int)]))
    clear f0 f1 hTK lc gM H1 ss;generalize w1.setRow (B+1) #[.int .i64 (le:Int),.int .i64 (la:Int)]=w2 at *;refine(aa HR).mono ?_;rintro e w3 ⟨hb3,gi,qQ⟩;have H3:=ab ((aa H2).below hb3)
    cases hr:oG s ll with
    | error x=>
     obtain⟨er,i⟩:=x;obtain⟨C,rfl,qV,qU⟩:=qQ er i hr;have bY:=Cc s ll er i hr;have hE:=aa aS;rw[hr] at hE;have HE:Hid (RR=.error (er,i)):=ab (hE);have q1:(er !=0)=true:=by simp;exact bY
     have H4:=ab ((aa H3).st C);have H5:=ab ((aa H4).fa #[.int .i64 er,.int .i64 (i:Int)]);have cK:=ab qV;have lR:=ab qU;obtain⟨f0,f1⟩:=jj (aa H5).f;clear gi qQ hr hE qV qU hb3 aS HR bY;unfold du;go_wp2_with (first
      | (refine aX rfl 30 _ _ rfl B C rfl rfl 30 Z24 (by with_reducible exact(aa H3).s) (cn.trans (by rw[aa cK])) (by rw[aa cK];rfl) (aa lR) ?_)
      | (refine aX rfl 36 _ _ rfl (B+1) #[.int .i64 er,.int .i64 (i:Int)] rfl rfl 36 #[.int .i64 (le:Int),.int .i64 (la:Int)] (by with_reducible exact(aa H4).f) fy rfl (by simp[Value.oneCell']) ?_)
      | fail)
     generalize (w3.setRow B C).setRow (B+1) #[.int .i64 er,.int .i64 (i:Int)]=w5 at *;clear f0 f1;have h6:=(aa H5).st Z24;have bw:LnS w B w5.drew C #[.int .i64 er,.int .i64 (i:Int)]:=⟨(aa H5).bel.drew,(aa H5).s,(aa H5).f⟩;have lp:LnS w B (w5.drew.setRow B Z24) Z24 #[.int .i64 er,.int .i64 (i:Int)]:=bw.st Z24;have H7:=ab (lp.fa #[.int .i64 er,.int .i64 (i:Int)]);obtain⟨S0,aO⟩:∃S0:World→Prop,S0=fun W=>W.cell? ⟨B+1,0,none⟩=some (.int .i64 er)∧W.cell? ⟨B+1,1,none⟩=some (.int .i64 (i:Int)):=⟨_,rfl⟩
     have ao:=ab aO;have aU:Hid (∀W D,LnS w B W D #[.int .i64 er,.int .i64 (i:Int)]→S0 W):=ab (fun W D h=>by rw[aO];exact jj h.f)
     clear aO;have ny:=aa aU _ _ bw;refine gZ 4 S0 ?_;intro F;refine aK F 0 ao ny ?_
     (try simp only[aH,aG])
     (try go_frame)
     refine aK F 1 ao ny ?_
     (try simp only[aH,aP,aG])
     (try go_frame)
     refine cg 2 (fun K2 ew=> ?_)
     refine ui rfl 30 _ _ rfl B Z24 rfl rfl 30 C bw.s cn (aa cK) (SV.cells_one bh) ?_;have nv:=aa aU _ _ lp;refine ew _ _ nv ?_
     (try simp only[aH,aP,aG])
     (try go_frame)
     refine aK F 3 ao nv ?_
     (try simp only[aH,aP,aG])
     (try go_frame)
     refine g5 (by kernel_rfl) rfl (by kernel_rfl) (fun K4 bH=> ?_)
     refine ui rfl 36 _ _ rfl (B+1) #[.int .i64 er,.int .i64 (i:Int)] rfl rfl 36 #[.int .i64 er,.int .i64 (i:Int)] lp.f fy rfl (by simp[Value.oneCell']) ?_
     refine bH _ _ ?_
     (try simp only[aH,aP,aG])
     (try go_frame)
     clear bH ew K4 K2 F nv ny lp bw h6 aU ao;go_wp2_with fail;exact ck (qh _ _ B (B+1) Z24 #[.int .i64 er,.int .i64 (i:Int)] (.bool false) rfl rfl rfl (aa H7).s (aa H7).f rfl rfl) rfl (aa gV er i _ (aa HE) (aa H7).bel)
    | ok x=>
     obtain⟨P,m⟩:=x;obtain⟨S,rfl,cE,cS⟩:=gi P m hr;have hE:=aa aS;rw[hr] at hE;have bK:Hid (RR=if P.tg.fits=true∧P.va.fits=true then .ok (some P) else .error (4,0)):=ab (hE);have hPt:P.tg.fits=S.tg.fits:=by rw[←cE];exact zM S.tg
     have hPv:P.va.fits=S.va.fits:=by rw[←cE];exact zM S.va
     rw[hPt,hPv] at bK;have HTM:=ab (fun W (hb:Below w3.heap.size w3 W)=>sF S.tg W (PT.In.later hb cS.here.tg))
     have HVM:=ab (fun W (hb:Below w3.heap.size w3 W)=>sF S.va W (PT.In.later hb cS.here.va))
     have HLIE:=ab cS;have HCAN:=ab cE;obtain⟨C,hC⟩:∃C,C=S.cells:=⟨_,rfl⟩;have dc:S.v=.agg C:=by rw[hC];rfl
     have gz:=ab dc;have qV:C.size=24:=by rw[hC];rfl
     have qU:C.all (·.oneCell')=true:=by rw[hC];exact SV.cells_one S
     have jZ:C[2]? =some (.int .i64 S.tg.k)∧C[3]? =some (.string S.tg.t)∧C[4]? =some (.int .i64 S.tg.n)∧C[5]? =some (.string S.tg.nm)∧C[6]? =some (.slice S.tg.xa S.tg.len S.tg.cap):=by rw[hC];exact⟨rfl,rfl,rfl,rfl,rfl⟩
     have iE:C[7]? =some (.int .i64 S.va.k)∧C[8]? =some (.string S.va.t)∧C[9]? =some (.int .i64 S.va.n)∧C[10]? =some (.string S.va.nm)∧C[11]? =some (.slice S.va.xa S.va.len S.va.cap):=by rw[hC];exact⟨rfl,rfl,rfl,rfl,rfl⟩
     have cK:=ab qV;have lR:=ab qU;have ri:=ab iE;have H4:=ab ((aa H3).st C);have H5:=ab ((aa H4).fa #[.int .i64 0,.int .i64 0]);obtain⟨f0,f1⟩:=jj (aa H5).f;have s2:=gO (aa H5).s jZ.1;have s3:=gO (aa H5).s jZ.2.1;have s4:=gO (aa H5).s jZ.2.2.1;have s5:=gO (aa H5).s jZ.2.2.2.1;have s6:=gO (aa H5).s jZ.2.2.2.2;have s7:=gO (aa H5).s iE.1;have s8:=gO (aa H5).s iE.2.1;have s9:=gO (aa H5).s iE.2.2.1;have tE:=gO (aa H5).s iE.2.2.2.1;have tD:=gO (aa H5).s iE.2.2.2.2;have HB35:Hid (∀W,LnS w B W C #[.int .i64 0,.int .i64 0]→True):=ab (fun _ _=>trivial)
     have CM:w3.heap.size=((w3.setRow B C).setRow (B+1) #[.int .i64 0,.int .i64 0]).heap.size:=by simp
     have mh:Hid (S.tg.In ((w3.setRow B C).setRow (B+1) #[.int .i64 0,.int .i64 0])∧S.va.In ((w3.setRow B C).setRow (B+1) #[.int .i64 0,.int .i64 0])∧SLies (B+2) ((w3.setRow B C).setRow (B+1) #[.int .i64 0,.int .i64 0]) S):=ab (by
      have h1:=((cS.setRow (g:=B) (by have:=(aa H2).lt;omega) C).setRow (g:=B+1) (by have:=(aa H2).lt;omega) #[.int .i64 0,.int .i64 0])
      exact⟨h1.here.tg,h1.here.va,h1.mono (by have:=(aa H2).lt;omega)⟩)
     clear gi qQ hr hE qV qU hb3 aS HR hC dc jZ iE cE cS hPt hPv HTM HVM HB35 CM;rw[aa gz];unfold du;go_wp2_with (first
      | (refine aX rfl 30 _ _ rfl B C rfl rfl 30 Z24 (by with_reducible exact(aa H3).s) (cn.trans (by rw[aa cK])) (by rw[aa cK];rfl) (aa lR) ?_)
      | (refine aX rfl 36 _ _ rfl (B+1) #[.int .i64 0,.int .i64 0] rfl rfl 36 #[.int .i64 (le:Int),.int .i64 (la:Int)] (by with_reducible exact(aa H4).f) fy rfl (by simp[Value.oneCell']) ?_)
      | fail)
     clear f0 f1 s2 s3 s4 s5 s6 s7 s8 s9 tE tD;generalize (w3.setRow B C).setRow (B+1) #[.int .i64 0,.int .i64 0]=w5 at *;clear H3 H4;have oV:=ab (sF S.tg w5 (aa mh).1);unfold pv at oV
     cases hf:S.tg.fits
     ·rw[hf] at oV bK
      have HE:Hid (RR=.error (4,0)):=ab ((aa bK).trans (ac (fun q=>absurd q.1 (by decide))))
      clear bK hf;refine(aa oV).mono ?_;rintro e w6 ⟨rfl,hb6⟩;have H6:=ab ((aa H5).below hb6);have H7:=ab ((aa H6).st Z24);have H8:=ab ((aa H7).fa #[.int .i64 4,.int .i64 0]);clear hb6;go_wp2_with (first
       | (refine aX rfl 30 _ _ rfl B Z24 rfl rfl 30 C (by with_reducible exact(aa H6).s) cn (aa cK) (SV.cells_one bh) ?_)
       | (refine aX rfl 36 _ _ rfl (B+1) #[.int .i64 4,.int .i64 0] rfl rfl 36 #[.int .i64 0,.int .i64 0] (by with_reducible exact(aa H7).f) fy rfl (by simp[Value.oneCell']) ?_)
       | fail)
      exact ck (qh _ _ B (B+1) Z24 #[.int .i64 4,.int .i64 0] (.bool false) rfl rfl rfl (aa H8).s (aa H8).f rfl rfl) rfl (aa gV 4 0 _ (aa HE) (aa H8).bel)
     ·rw[hf] at oV bK
      clear hf;refine(aa oV).mono ?_;rintro e w6 ⟨rfl,hb6⟩;have H6:=ab ((aa H5).below hb6);have kS:=ab ((aa mh).2.2.below hb6);have HVC:=ab (sF S.va w6 (PT.In.later hb6 (aa mh).2.1));unfold pv at HVC;have s7:=gO (aa H6).s (aa ri).1;have s8:=gO (aa H6).s (aa ri).2.1;have s9:=gO (aa H6).s (aa ri).2.2.1;have tE:=gO (aa H6).s (aa ri).2.2.2.1;have tD:=gO (aa H6).s (aa ri).2.2.2.2;clear hb6 oV mh;go_wp2_with fail;clear s7 s8 s9 tE tD;refine(aa HVC).mono ?_;rintro e w7 ⟨rfl,hb7⟩;have H7:=ab ((aa H6).below hb7);have HL7:=ab ((aa kS).below hb7);clear hb7 HVC kS
      cases hf:S.va.fits
      ·rw[hf] at bK
       have HE:Hid (RR=.error (4,0)):=ab ((aa bK).trans (ac (fun q=>absurd q.2 (by decide))))
       clear bK hf;have H8:=ab ((aa H7).st Z24);have H9:=ab ((aa H8).fa #[.int .i64 4,.int .i64 0]);go_wp2_with (first
        | (refine aX rfl 30 _ _ rfl B Z24 rfl rfl 30 C (by with_reducible exact(aa H7).s) cn (aa cK) (SV.cells_one bh) ?_)
        | (refine aX rfl 36 _ _ rfl (B+1) #[.int .i64 4,.int .i64 0] rfl rfl 36 #[.int .i64 0,.int .i64 0] (by with_reducible exact(aa H8).f) fy rfl (by simp[Value.oneCell']) ?_)
        | fail)
       exact ck (qh _ _ B (B+1) Z24 #[.int .i64 4,.int .i64 0] (.bool false) rfl rfl rfl (aa H9).s (aa H9).f rfl rfl) rfl (aa gV 4 0 _ (aa HE) (aa H9).bel)
      ·rw[hf] at bK
       have HE:Hid (RR=.ok (some P)):=ab ((aa bK).trans (af (by simp)))
       clear bK hf;have H8:=ab ((aa H7).st C);have H9:=ab ((aa H8).fa #[.int .i64 0,.int .i64 0]);go_wp2_with (first
        | (refine gG rfl 30 _ rfl B rfl 30 C (0,0) _ (by with_reducible exact(aa H7).s) underlying30 rfl (cn.trans (by rw[aa cK])) ?_)
        | (refine aX rfl 30 _ _ rfl B C rfl rfl 30 C (by with_reducible exact(aa H7).s) (cn.trans (by rw[aa cK])) rfl (aa lR) ?_)
        | (refine aX rfl 36 _ _ rfl (B+1) #[.int .i64 0,.int .i64 0] rfl rfl 36 #[.int .i64 0,.int .i64 0] (by with_reducible exact(aa H8).f) fy rfl (by simp[Value.oneCell']) ?_)
        | fail)
       exact ck (qh _ _ B (B+1) C #[.int .i64 0,.int .i64 0] (.bool true) rfl rfl rfl (aa H9).s (aa H9).f (aa cK) rfl) rfl (aa kQ _ _ ⟨(aa H9).bel,fun er a h=>(by rw[aa HE] at h;cases h),fun h=>(by rw[aa HE] at h;cases h),fun P' h=>(by
        rw[aa HE] at h;injection h with h;injection h with h
        subst h;exact⟨S,by rw[aa gz];rfl,aa HCAN,(((aa HL7).setRow (g:=B) (by omega) C).setRow (g:=B+1) (by omega) _).mono (by omega)⟩)⟩)
   ·have q0:((le:Int) !=0)=true:=by simp;omega
    have HE:Hid (RR=.error ((le:Int),la)):=ab ((aa bQ).trans (af (fun q=>h0 (by omega))))
    clear h0 bQ mo gM ss;go_wp2_with (first
     | (refine aX rfl 36 _ _ rfl (B+1) #[.int .i64 (le:Int),.int .i64 (la:Int)] rfl rfl 36 #[.int .i64 0,.int .i64 0] (by with_reducible exact(aa H1).f) fy rfl (by simp[Value.oneCell']) ?_)
     | fail)
    clear f0 f1 H1;generalize w1.setRow (B+1) #[.int .i64 (le:Int),.int .i64 (la:Int)]=w2 at *;have h6:=(aa H2).st Z24;have bw:LnS w B w2.drew Z24 #[.int .i64 (le:Int),.int .i64 (la:Int)]:=⟨(aa H2).bel.drew,(aa H2).s,(aa H2).f⟩;have lp:LnS w B (w2.drew.setRow B Z24) Z24 #[.int .i64 (le:Int),.int .i64 (la:Int)]:=bw.st Z24;have H7:=ab (lp.fa #[.int .i64 (le:Int),.int .i64 (la:Int)]);obtain⟨S0,aO⟩:∃S0:World→Prop,S0=fun W=>W.cell? ⟨B+1,0,none⟩=some (.int .i64 (le:Int))∧W.cell? ⟨B+1,1,none⟩=some (.int .i64 (la:Int)):=⟨_,rfl⟩
    have ao:=ab aO;have aU:Hid (∀W D,LnS w B W D #[.int .i64 (le:Int),.int .i64 (la:Int)]→S0 W):=ab (fun W D h=>by rw[aO];exact jj h.f)
    clear aO;have ny:=aa aU _ _ bw;refine gZ 4 S0 ?_;intro F;refine aK F 0 ao ny ?_
    (try simp only[aH,aG])
    (try go_frame)
    refine aK F 1 ao ny ?_
    (try simp only[aH,aP,aG])
    (try go_frame)
    refine cg 2 (fun K2 ew=> ?_)
    refine ui rfl 30 _ _ rfl B Z24 rfl rfl 30 Z24 bw.s cn (rfl) (SV.cells_one bh) ?_;have nv:=aa aU _ _ lp;refine ew _ _ nv ?_
    (try simp only[aH,aP,aG])
    (try go_frame)
    refine aK F 3 ao nv ?_
    (try simp only[aH,aP,aG])
    (try go_frame)
    refine g5 (by kernel_rfl) rfl (by kernel_rfl) (fun K4 bH=> ?_)
    refine ui rfl 36 _ _ rfl (B+1) #[.int .i64 (le:Int),.int .i64 (la:Int)] rfl rfl 36 #[.int .i64 (le:Int),.int .i64 (la:Int)] lp.f fy rfl (by simp[Value.oneCell']) ?_
    refine bH _ _ ?_
    (try simp only[aH,aP,aG])
    (try go_frame)
    clear bH ew K4 K2 F nv ny lp bw h6 aU ao;go_wp2_with fail;exact ck (qh _ _ B (B+1) Z24 #[.int .i64 (le:Int),.int .i64 (la:Int)] (.bool false) rfl rfl rfl (aa H7).s (aa H7).f rfl rfl) rfl (aa gV (le:Int) la _ (aa HE) (aa H7).bel)
 ·have bQ:=ab ((aa HQ).trans (ac (fun q=>hb q.1)))
  rw[dh hb];clear hb HQ;go_wp2_with fail;refine(aa ua w0 (aa H0).bel).mono ?_;rintro e w1 ⟨v,rfl,aV,hb1⟩;have H1:=ab ((aa H0).below hb1);have gM:=ab (aa mj w0 w1 v aV (by have:=(aa H1).lt;omega))
  have H2:=ab ((aa H1).fa (sX le la));have dR:=ab (aa H0).lt;clear hb1 aV ua mj;unfold sX at H2;unfold sX;obtain⟨f0,f1⟩:=jj (aa H2).f
  by_cases h0:le=0
  ·have q0:((le:Int) !=0)=false:=by simp;omega
   have aS:=ab ((aa bQ).trans (ac (fun q=>q h0)))
   have lQ:=ab (aa mo h0);clear h0 bQ mo;go_wp2_with (first
    | (refine aX rfl 36 _ _ rfl (B+1) #[.int .i64 (le:Int),.int .i64 (la:Int)] rfl rfl 36 #[.int .i64 0,.int .i64 0] (by with_reducible exact(aa H1).f) fy rfl (by simp[Value.oneCell']) ?_)
    | fail)
   obtain⟨g,hTK,lc⟩:=aa gM;have HR:=ab (aa ss _ v g (aa lQ) (aa H2).bel (hTK.set (lc.imp id fun q=>by have:=aa dR;omega) #[.int .i64 (le:Int),.int .i64 (la:Int)]))
   clear f0 f1 hTK lc gM H1 ss;generalize w1.setRow (B+1) #[.int .i64 (le:Int),.int .i64 (la:Int)]=w2 at *;refine(aa HR).mono ?_;rintro e w3 ⟨hb3,gi,qQ⟩;have H3:=ab ((aa H2).below hb3)
   cases hr:oG s ll with
   | error x=>
    obtain⟨er,i⟩:=x;obtain⟨C,rfl,qV,qU⟩:=qQ er i hr;have bY:=Cc s ll er i hr;have hE:=aa aS;rw[hr] at hE;have HE:Hid (RR=.error (er,i)):=ab (hE);have q1:(er !=0)=true:=by simp;exact bY
    have H4:=ab ((aa H3).st C);have H5:=ab ((aa H4).fa #[.int .i64 er,.int .i64 (i:Int)]);have cK:=ab qV;have lR:=ab qU;obtain⟨f0,f1⟩:=jj (aa H5).f;clear gi qQ hr hE qV qU hb3 aS HR bY;unfold du;go_wp2_with (first
     | (refine aX rfl 30 _ _ rfl B C rfl rfl 30 Z24 (by with_reducible exact(aa H3).s) (cn.trans (by rw[aa cK])) (by rw[aa cK];rfl) (aa lR) ?_)
     | (refine aX rfl 36 _ _ rfl (B+1) #[.int .i64 er,.int .i64 (i:Int)] rfl rfl 36 #[.int .i64 (le:Int),.int .i64 (la:Int)] (by with_reducible exact(aa H4).f) fy rfl (by simp[Value.oneCell']) ?_)
     | fail)
    generalize (w3.setRow B C).setRow (B+1) #[.int .i64 er,.int .i64 (i:Int)]=w5 at *;clear f0 f1;have h6:=(aa H5).st Z24;have bw:LnS w B w5.drew C #[.int .i64 er,.int .i64 (i:Int)]:=⟨(aa H5).bel.drew,(aa H5).s,(aa H5).f⟩;have lp:LnS w B (w5.drew.setRow B Z24) Z24 #[.int .i64 er,.int .i64 (i:Int)]:=bw.st Z24;have H7:=ab (lp.fa #[.int .i64 er,.int .i64 (i:Int)]);obtain⟨S0,aO⟩:∃S0:World→Prop,S0=fun W=>W.cell? ⟨B+1,0,none⟩=some (.int .i64 er)∧W.cell? ⟨B+1,1,none⟩=some (.int .i64 (i:Int)):=⟨_,rfl⟩
    have ao:=ab aO;have aU:Hid (∀W D,LnS w B W D #[.int .i64 er,.int .i64 (i:Int)]→S0 W):=ab (fun W D h=>by rw[aO];exact jj h.f)
    clear aO;have ny:=aa aU _ _ bw;refine gZ 4 S0 ?_;intro F;refine aK F 0 ao ny ?_
    (try simp only[aH,aG])
    (try go_frame)
    refine aK F 1 ao ny ?_
    (try simp only[aH,aP,aG])
    (try go_frame)
    refine cg 2 (fun K2 ew=> ?_)
    refine ui rfl 30 _ _ rfl B Z24 rfl rfl 30 C bw.s cn (aa cK) (SV.cells_one bh) ?_;have nv:=aa aU _ _ lp;refine ew _ _ nv ?_
    (try simp only[aH,aP,aG])
    (try go_frame)
    refine aK F 3 ao nv ?_
    (try simp only[aH,aP,aG])
    (try go_frame)
    refine g5 (by kernel_rfl) rfl (by kernel_rfl) (fun K4 bH=> ?_)
    refine ui rfl 36 _ _ rfl (B+1) #[.int .i64 er,.int .i64 (i:Int)] rfl rfl 36 #[.int .i64 er,.int .i64 (i:Int)] lp.f fy rfl (by simp[Value.oneCell']) ?_
    refine bH _ _ ?_
    (try simp only[aH,aP,aG])
    (try go_frame)
    clear bH ew K4 K2 F nv ny lp bw h6 aU ao;go_wp2_with fail;exact ck (qh _ _ B (B+1) Z24 #[.int .i64 er,.int .i64 (i:Int)] (.bool false) rfl rfl rfl (aa H7).s (aa H7).f rfl rfl) rfl (aa gV er i _ (aa HE) (aa H7).bel)
   | ok x=>
    obtain⟨P,m⟩:=x;obtain⟨S,rfl,cE,cS⟩:=gi P m hr;have hE:=aa aS;rw[hr] at hE;have bK:Hid (RR=if P.tg.fits=true∧P.va.fits=true then .ok (some P) else .error (4,0)):=ab (hE);have hPt:P.tg.fits=S.tg.fits:=by rw[←cE];exact zM S.tg
    have hPv:P.va.fits=S.va.fits:=by rw[←cE];exact zM S.va
    rw[hPt,hPv] at bK;have HTM:=ab (fun W (hb:Below w3.heap.size w3 W)=>sF S.tg W (PT.In.later hb cS.here.tg))
    have HVM:=ab (fun W (hb:Below w3.heap.size w3 W)=>sF S.va W (PT.In.later hb cS.here.va))
    have HLIE:=ab cS;have HCAN:=ab cE;obtain⟨C,hC⟩:∃C,C=S.cells:=⟨_,rfl⟩;have dc:S.v=.agg C:=by rw[hC];rfl
    have gz:=ab dc;have qV:C.size=24:=by rw[hC];rfl
    have qU:C.all (·.oneCell')=true:=by rw[hC];exact SV.cells_one S
    have jZ:C[2]? =some (.int .i64 S.tg.k)∧C[3]? =some (.string S.tg.t)∧C[4]? =some (.int .i64 S.tg.n)∧C[5]? =some (.string S.tg.nm)∧C[6]? =some (.slice S.tg.xa S.tg.len S.tg.cap):=by rw[hC];exact⟨rfl,rfl,rfl,rfl,rfl⟩
    have iE:C[7]? =some (.int .i64 S.va.k)∧C[8]? =some (.string S.va.t)∧C[9]? =some (.int .i64 S.va.n)∧C[10]? =some (.string S.va.nm)∧C[11]? =some (.slice S.va.xa S.va.len S.va.cap):=by rw[hC];exact⟨rfl,rfl,rfl,rfl,rfl⟩
    have cK:=ab qV;have lR:=ab qU;have ri:=ab iE;have H4:=ab ((aa H3).st C);have H5:=ab ((aa H4).fa #[.int .i64 0,.int .i64 0]);obtain⟨f0,f1⟩:=jj (aa H5).f;have s2:=gO (aa H5).s jZ.1;have s3:=gO (aa H5).s jZ.2.1;have s4:=gO (aa H5).s jZ.2.2.1;have s5:=gO (aa H5).s jZ.2.2.2.1;have s6:=gO (aa H5).s jZ.2.2.2.2;have s7:=gO (aa H5).s iE.1;have s8:=gO (aa H5).s iE.2.1;have s9:=gO (aa H5).s iE.2.2.1;have tE:=gO (aa H5).s iE.2.2.2.1;have tD:=gO (aa H5).s iE.2.2.2.2;have HB35:Hid (∀W,LnS w B W C #[.int .i64 0,.int .i64 0]→True):=ab (fun _ _=>trivial)
    have CM:w3.heap.size=((w3.setRow B C).setRow (B+1) #[.int .i64 0,.int .i64 0]).heap.size:=by simp
    have mh:Hid (S.tg.In ((w3.setRow B C).setRow (B+1) #[.int .i64 0,.int .i64 0])∧S.va.In ((w3.setRow B C).setRow (B+1) #[.int .i64 0,.int .i64 0])∧SLies (B+2) ((w3.setRow B C).setRow (B+1) #[.int .i64 0,.int .i64 0]) S):=ab (by
     have h1:=((cS.setRow (g:=B) (by have:=(aa H2).lt;omega) C).setRow (g:=B+1) (by have:=(aa H2).lt;omega) #[.int .i64 0,.int .i64 0])
     exact⟨h1.here.tg,h1.here.va,h1.mono (by have:=(aa H2).lt;omega)⟩)
    clear gi qQ hr hE qV qU hb3 aS HR hC dc jZ iE cE cS hPt hPv HTM HVM HB35 CM;rw[aa gz];unfold du;go_wp2_with (first
     | (refine aX rfl 30 _ _ rfl B C rfl rfl 30 Z24 (by with_reducible exact(aa H3).s) (cn.trans (by rw[aa cK])) (by rw[aa cK];rfl) (aa lR) ?_)
     | (refine aX rfl 36 _ _ rfl (B+1) #[.int .i64 0,.int .i64 0] rfl rfl 36 #[.int .i64 (le:Int),.int .i64 (la:Int)] (by with_reducible exact(aa H4).f) fy rfl (by simp[Value.oneCell']) ?_)
     | fail)
    clear f0 f1 s2 s3 s4 s5 s6 s7 s8 s9 tE tD;generalize (w3.setRow B C).setRow (B+1) #[.int .i64 0,.int .i64 0]=w5 at *;clear H3 H4;have oV:=ab (sF S.tg w5 (aa mh).1);unfold pv at oV
    cases hf:S.tg.fits
    ·rw[hf] at oV bK
     have HE:Hid (RR=.error (4,0)):=ab ((aa bK).trans (ac (fun q=>absurd q.1 (by decide))))
     clear bK hf;refine(aa oV).mono ?_;rintro e w6 ⟨rfl,hb6⟩;have H6:=ab ((aa H5).below hb6);have H7:=ab ((aa H6).st Z24);have H8:=ab ((aa H7).fa #[.int .i64 4,.int .i64 0]);clear hb6;go_wp2_with (first
      | (refine aX rfl 30 _ _ rfl B Z24 rfl rfl 30 C (by with_reducible exact(aa H6).s) cn (aa cK) (SV.cells_one bh) ?_)
      | (refine aX rfl 36 _ _ rfl (B+1) #[.int .i64 4,.int .i64 0] rfl rfl 36 #[.int .i64 0,.int .i64 0] (by with_reducible exact(aa H7).f) fy rfl (by simp[Value.oneCell']) ?_)
      | fail)
     exact ck (qh _ _ B (B+1) Z24 #[.int .i64 4,.int .i64 0] (.bool false) rfl rfl rfl (aa H8).s (aa H8).f rfl rfl) rfl (aa gV 4 0 _ (aa HE) (aa H8).bel)
    ·rw[hf] at oV bK
     clear hf;refine(aa oV).mono ?_;rintro e w6 ⟨rfl,hb6⟩;have H6:=ab ((aa H5).below hb6);have kS:=ab ((aa mh).2.2.below hb6);have HVC:=ab (sF S.va w6 (PT.In.later hb6 (aa mh).2.1));unfold pv at HVC;have s7:=gO (aa H6).s (aa ri).1;have s8:=gO (aa H6).s (aa ri).2.1;have s9:=gO (aa H6).s (aa ri).2.2.1;have tE:=gO (aa H6).s (aa ri).2.2.2.1;have tD:=gO (aa H6).s (aa ri).2.2.2.2;clear hb6 oV mh;go_wp2_with fail;clear s7 s8 s9 tE tD;refine(aa HVC).mono ?_;rintro e w7 ⟨rfl,hb7⟩;have H7:=ab ((aa H6).below hb7);have HL7:=ab ((aa kS).below hb7);clear hb7 HVC kS
     cases hf:S.va.fits
     ·rw[hf] at bK
      have HE:Hid (RR=.error (4,0)):=ab ((aa bK).trans (ac (fun q=>absurd q.2 (by decide))))
      clear bK hf;have H8:=ab ((aa H7).st Z24);have H9:=ab ((aa H8).fa #[.int .i64 4,.int .i64 0]);go_wp2_with (first
       | (refine aX rfl 30 _ _ rfl B Z24 rfl rfl 30 C (by with_reducible exact(aa H7).s) cn (aa cK) (SV.cells_one bh) ?_)
       | (refine aX rfl 36 _ _ rfl (B+1) #[.int .i64 4,.int .i64 0] rfl rfl 36 #[.int .i64 0,.int .i64 0] (by with_reducible exact(aa H8).f) fy rfl (by simp[Value.oneCell']) ?_)
       | fail)
      exact ck (qh _ _ B (B+1) Z24 #[.int .i64 4,.int .i64 0] (.bool false) rfl rfl rfl (aa H9).s (aa H9).f rfl rfl) rfl (aa gV 4 0 _ (aa HE) (aa H9).bel)
     ·rw[hf] at bK
      have HE:Hid (RR=.ok (some P)):=ab ((aa bK).trans (af (by simp)))
      clear bK hf;have H8:=ab ((aa H7).st C);have H9:=ab ((aa H8).fa #[.int .i64 0,.int .i64 0]);go_wp2_with (first
       | (refine gG rfl 30 _ rfl B rfl 30 C (0,0) _ (by with_reducible exact(aa H7).s) underlying30 rfl (cn.trans (by rw[aa cK])) ?_)
       | (refine aX rfl 30 _ _ rfl B C rfl rfl 30 C (by with_reducible exact(aa H7).s) (cn.trans (by rw[aa cK])) rfl (aa lR) ?_)
       | (refine aX rfl 36 _ _ rfl (B+1) #[.int .i64 0,.int .i64 0] rfl rfl 36 #[.int .i64 0,.int .i64 0] (by with_reducible exact(aa H8).f) fy rfl (by simp[Value.oneCell']) ?_)
       | fail)
      exact ck (qh _ _ B (B+1) C #[.int .i64 0,.int .i64 0] (.bool true) rfl rfl rfl (aa H9).s (aa H9).f (aa cK) rfl) rfl (aa kQ _ _ ⟨(aa H9).bel,fun er a h=>(by rw[aa HE] at h;cases h),fun h=>(by rw[aa HE] at h;cases h),fun P' h=>(by
       rw[aa HE] at h;injection h with h;injection h with h
       subst h;exact⟨S,by rw[aa gz];rfl,aa HCAN,(((aa HL7).setRow (g:=B) (by omega) C).setRow (g:=B+1) (by omega) _).mono (by omega)⟩)⟩)
  ·have q0:((le:Int) !=0)=true:=by simp;omega
   have HE:Hid (RR=.error ((le:Int),la)):=ab ((aa bQ).trans (af (fun q=>h0 (by omega))))
   clear h0 bQ mo gM ss;go_wp2_with (first
    | (refine aX rfl 36 _ _ rfl (B+1) #[.int .i64 (le:Int),.int .i64 (la:Int)] rfl rfl 36 #[.int .i64 0,.int .i64 0] (by with_reducible exact(aa H1).f) fy rfl (by simp[Value.oneCell']) ?_)
    | fail)
   clear f0 f1 H1;generalize w1.setRow (B+1) #[.int .i64 (le:Int),.int .i64 (la:Int)]=w2 at *;have h6:=(aa H2).st Z24;have bw:LnS w B w2.drew Z24 #[.int .i64 (le:Int),.int .i64 (la:Int)]:=⟨(aa H2).bel.drew,(aa H2).s,(aa H2).f⟩;have lp:LnS w B (w2.drew.setRow B Z24) Z24 #[.int .i64 (le:Int),.int .i64 (la:Int)]:=bw.st Z24;have H7:=ab (lp.fa #[.int .i64 (le:Int),.int .i64 (la:Int)]);obtain⟨S0,aO⟩:∃S0:World→Prop,S0=fun W=>W.cell? ⟨B+1,0,none⟩=some (.int .i64 (le:Int))∧W.cell? ⟨B+1,1,none⟩=some (.int .i64 (la:Int)):=⟨_,rfl⟩
   have ao:=ab aO;have aU:Hid (∀W D,LnS w B W D #[.int .i64 (le:Int),.int .i64 (la:Int)]→S0 W):=ab (fun W D h=>by rw[aO];exact jj h.f)
   clear aO;have ny:=aa aU _ _ bw;refine gZ 4 S0 ?_;intro F;refine aK F 0 ao ny ?_
   (try simp only[aH,aG])
   (try go_frame)
   refine aK F 1 ao ny ?_
   (try simp only[aH,aP,aG])
   (try go_frame)
   refine cg 2 (fun K2 ew=> ?_)
   refine ui rfl 30 _ _ rfl B Z24 rfl rfl 30 Z24 bw.s cn (rfl) (SV.cells_one bh) ?_;have nv:=aa aU _ _ lp;refine ew _ _ nv ?_
   (try simp only[aH,aP,aG])
   (try go_frame)
   refine aK F 3 ao nv ?_
   (try simp only[aH,aP,aG])
   (try go_frame)
   refine g5 (by kernel_rfl) rfl (by kernel_rfl) (fun K4 bH=> ?_)
   refine ui rfl 36 _ _ rfl (B+1) #[.int .i64 (le:Int),.int .i64 (la:Int)] rfl rfl 36 #[.int .i64 (le:Int),.int .i64 (la:Int)] lp.f fy rfl (by simp[Value.oneCell']) ?_
   refine bH _ _ ?_
   (try simp only[aH,aP,aG])
   (try go_frame)
   clear bH ew K4 K2 F nv ny lp bw h6 aU ao;go_wp2_with fail;exact ck (qh _ _ B (B+1) Z24 #[.int .i64 (le:Int),.int .i64 (la:Int)] (.bool false) rfl rfl rfl (aa H7).s (aa H7).f rfl rfl) rfl (aa gV (le:Int) la _ (aa HE) (aa H7).bel)
open Go.RowKit
theorem aY {w:World} {g:Nat} {C:Array Value} {t:TypeId} (h:w.heap[g]? =some (.cells C t (0,0))) {k:Nat} {u:Value} (hk:C[k]? =some u):w.cell? ⟨g,k,none⟩=some u:=by rw[eX _ _ _ _ _ _ h];exact hk
open Go.RowKit
def qx (w:World) (C:Array Value) (a b:Int):World:=((((w.alloc (.cells Z24 30)).alloc (.cells #[.int .i64 0,.int .i64 0] 36)).setRow w.heap.size C).setRow (w.heap.size+1) #[.int .i64 a,.int .i64 b])
theorem uL (w:World) (C:Array Value) (a b:Int):Below w.heap.size w (qx w C a b)∧(qx w C a b).heap[w.heap.size]? =some (.cells C 30 (0,0))∧(qx w C a b).heap[w.heap.size+1]? =some (.cells #[.int .i64 a,.int .i64 b] 36 (0,0)):=by
 have h0:((w.alloc (.cells Z24 30)).alloc (.cells #[.int .i64 0,.int .i64 0] 36)).heap[w.heap.size]? =some (.cells Z24 30 (0,0)):=bL (by simp) (aw rfl)
 have h1:((w.alloc (.cells Z24 30)).alloc (.cells #[.int .i64 0,.int .i64 0] 36)).heap[w.heap.size+1]? =some (.cells #[.int .i64 0,.int .i64 0] 36 (0,0)):=aw (by simp)
 have hb:Below w.heap.size w ((w.alloc (.cells Z24 30)).alloc (.cells #[.int .i64 0,.int .i64 0] 36)):=(ba _).alloc (by simp) _
 refine⟨eL (eL hb _ (ax _) _) _ (by omega) _, ?_, ?_⟩
 ·exact(dH _ _ _ _ (by omega)).trans (cm _ _ _ _ _ _ h0)
 ·exact cm _ _ _ _ _ _ ((dH _ _ _ _ (by omega)).trans h1)
theorem y9 {P:Program} {ops:Array Oper} {rest:List Oper} {o:Oper} {a:Act} {w:World} {Q:Exit→Act→World→Prop} (hw:Region.wanted o (yielded ops a.tmps)=true) (ty:TypeId) (x:Operand) (ho:o.op=.load ty x)
  (g:Nat) (hx:a.eval x=.pointer (some ⟨g,0,none⟩)) (t:TypeId) (cs:Array Value) (fr:Nat × Nat) (d:TypeDesc) (hg:w.heap[g]? =some (.cells cs t fr))
  (hu:P.underlying ty=some d) (hd:(match d with | .struct _ | .array _ _=>true | _=>false)=true) (hi:(P.info? ty).map (·.size)=some cs.size)
  (h:wpList P ops Q rest (a.put o.dst (.agg cs)) w):wpList P ops Q (o::rest) a w:=
 wpList_step fun K hK=>by rw[af hw];exact wp_load_row ty x ho g hx t cs fr d hg hu hd hi (hK _ _ h)
theorem Dh {P:Program} {ops:Array Oper} {S:World→Prop} {o:Oper} {a:Act} (ty:TypeId) (x:Operand) (ho:o.op=.load ty x) (hw:Region.wanted o (yielded ops a.tmps)=true)
  (g:Nat) (hx:a.eval x=.pointer (some ⟨g,0,none⟩)) (t:TypeId) (cs:Array Value) (fr:Nat × Nat) (d:TypeDesc) (hg:∀w,S w→w.heap[g]? =some (.cells cs t fr))
  (hu:P.underlying ty=some d) (hd:(match d with | .struct _ | .array _ _=>true | _=>false)=true) (hi:(P.info? ty).map (·.size)=some cs.size):YieldsIf P ops S o (.agg cs) a:=
 Or.inl ⟨hw,fun w hS=>by
  unfold execOp;simp only[ho,hx,Instr.loadAt,Instr.sureAddr,rT,Sem.run_pure,Result.andThen_ok,tn w g t ty cs fr d (hg w hS) hu hd hi]⟩
end Go.Proofs.YtlmnjbipfacniaaGreatDoor
