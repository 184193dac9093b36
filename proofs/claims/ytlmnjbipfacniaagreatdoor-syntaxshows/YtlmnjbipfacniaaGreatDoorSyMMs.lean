/- The reader of lines: signs ahead of a piece. The reader of l -/
import Derived.Test.YtlmnjbipfacniaaGreatDoorSyIMs
set_option maxRecDepth 100000
set_option maxHeartbeats 8000000
namespace Go.Proofs.YtlmnjbipfacniaaGreatDoor
open Go.Proofs.Tryz
open Go.RowKit
section
variable {E:Nat} {p:Option Lv} {l:List Tk}
theorem Mc (h:aL (ak E 0 l) (ah 45)=true):gc E p l=aR (uC E p l.tail) fun x r=>.ok (k8 7 [x],r):=by unfold gc;rw[af h]
theorem sgS_no (h:aL (ak E 0 l) (ah 45)=false):gc E p l=eY E p l:=by unfold gc;rw[ac (by rw[h];decide)]
end
theorem CO {d:Nat} (hd:d≤400) (HP:nX 180 d (fun E=>eY E (bV E d))) (jE:∀d',d=d'+1→nX 168 d' (fun E=>gc E (bV E d'))):nX 168 d (fun E=>gc E (bV E d)):=by
 intro C l w hR hE;have HR:=ab hR;have HE:=ab hE;have hzl:=hR.lt;have bo:=ab (XRes.start hR);have fm:w.heap.size+1≤(w.alloc (.cells aB 24)).heap.size:=(aa bo).size;have sJ:Hid (∀l w,Syr C w l (400 - d)→SyEnv C w→Calls prog 180 #[.pointer (some ⟨C.z,0,none⟩)] w fun e w'=>fJ (eW w.heap.size) C (400 - d) w (eY C.E (bV C.E d) l) e w'):=ab (fun l w h k=>HP C l w h k)
 show Calls _ _ _ _ fun e w'=>fJ (eW w.heap.size) C (400 - d) w (gc C.E (bV C.E d) l) e w'
 obtain⟨RR,bD⟩:∃RR,RR=gc C.E (bV C.E d) l:=⟨_,rfl⟩;rw[←bD];have HQ:=ab bD;clear hE HP bD;generalize ho:400 - d=o at *;have HO:=ab ho;clear hR ho
 cases h4:aL (ak C.E 0 l) (ah 45)
 ·have bO:Hid (RR=eY C.E (bV C.E d) l):=ab ((aa HQ).trans (sgS_no h4))
  have HC:=ab (pK (ah 45) _ (aa bo).rdr h4);clear h4 HQ jE;unfold ah at HC;generalize eY C.E (bV C.E d)=PF at *;go_enter func168,ntmps168;go_wp2_with fail;refine(aa HC).mono ?_;rintro e w4 ⟨rfl,hb4⟩;have bY:=ab ((aa bo).below hb4);have jG:=ab (aa sJ l w4 (aa bY).rdr ((aa HE).but (aa bY).but));clear hb4 HC sJ;go_wp2_with fail;refine(aa jG).mono ?_;intro e w5 hp
  cases hq:PF l with
  | error x=>
   obtain⟨er,i⟩:=x;obtain⟨hb5,rfl⟩:=dr hp hq;have dJ:=ab ((aa bY).but.trans hb5);have aU:Hid (RR=.error (er,i)):=ab (by rw[aa bO,hq])
   clear hp hb5 hq;unfold aC;go_wp2_with fail;exact⟨rfl,fu (aa aU) (aa dJ) rfl⟩
  | ok x=>
   obtain⟨x,r⟩:=x;obtain⟨hb5,⟨U,rfl,cA,cL⟩,hR5⟩:=dt hp hq;have dC:=ab ((aa bY).next hzl hb5 hR5);have sM:Hid (U.can=x∧bf (w.heap.size+1) w5 U):=ab (⟨cA,cL.mono (aa bY).size⟩);have aU:Hid (RR=.ok (x,r)):=ab (by rw[aa bO,hq])
   clear hp hb5 hq cA cL hR5 jG;unfold pv;go_wp2_with (first
    | (refine bh rfl 24 _ _ rfl w.heap.size #[.int .i64 U.k,.string U.t,.int .i64 U.n,.string U.nm,.slice U.xa U.len U.cap] rfl rfl 24 aB (aa dC).res eM rfl (by simp[Value.oneCell']) ?_)
    | fail)
   (try simp only[Exit.inBlock,Exit.then])
   refine bK (dM rfl _ _ w.heap.size 24 #[.int .i64 U.k,.string U.t,.int .i64 U.n,.string U.nm,.slice U.xa U.len U.cap] (0,0) _ rfl (bW _ _ _ _ _ _ (aa dC).res) underlying24 rfl eM) rfl ?_;exact(aa dC).done (U:=U) (aa HR) (aa aU) (aa sM).1 (aa sM).2 _
 ·have bO:Hid (RR=_):=ab ((aa HQ).trans (Mc h4))
  have HC:=ab (pJ (ah 45) _ (aa bo).rdr h4);clear h4 HQ sJ;unfold ah at HC
  cases d with
  | zero=>
   have aU:Hid (RR=.error (4,(ak C.E 0 l.tail).a)):=ab (by rw[aa bO];rfl)
   have jT:=ab (fun w h=>A1 (C:=C) (l:=l.tail) (o:=o) w h (aa HO).symm)
   clear bO jE;generalize (ak C.E 0 l.tail).a=ae at *;go_enter func168,ntmps168;go_wp2_with fail;refine(aa HC).mono ?_;rintro e w4 ⟨rfl,hb4,hR4⟩;have dD:=ab ((aa bo).but.trans hb4);have jG:=ab (aa jT _ hR4);clear hb4 hR4 HC jT;go_wp2_with fail;refine(aa jG).mono ?_;rintro e w5 ⟨rfl,hb5⟩;have dJ:=ab ((aa dD).trans hb5);clear hb5;unfold aC;go_wp2_with fail;exact⟨rfl,fu (aa aU) (aa dJ) rfl⟩
  | succ d=>
   have aU:Hid (RR=aR (gc C.E (bV C.E d) l.tail) fun x r=>.ok (k8 7 [x],r)):=ab (by rw[aa bO];rfl)
   have hO:=aa HO;have jT:=ab (fun w h=>A0 (C:=C) (l:=l.tail) (o:=o) w h (by omega))
   rw[show o+1=400 - d by omega] at jT
   have HPC:Hid (∀l w,Syr C w l (400 - d)→SyEnv C w→Calls prog 168 #[.pointer (some ⟨C.z,0,none⟩)] w fun e w'=>fJ (eW w.heap.size) C (400 - d) w (gc C.E (bV C.E d) l) e w'):=ab (fun l w h k=>jE d rfl C l w h k)
   have mR:=ab (fun w l h=>AS (C:=C) (l:=l) (o:=o) w h (by omega))
   rw[show o+1=400 - d by omega] at mR
   clear bO jE hd hO HO;generalize 400 - d=o1 at *;generalize bV C.E d=p at *;go_enter func168,ntmps168;go_wp2_with fail;refine(aa HC).mono ?_;rintro e w4 ⟨rfl,hb4,hR4⟩;have bY:=ab ((aa bo).next hzl hb4 hR4);have jG:=ab (aa jT _ hR4);clear hb4 hR4 HC jT;go_wp2_with fail;refine(aa jG).mono ?_;rintro e w5 ⟨rfl,hb5,hR5⟩;have dC:=ab ((aa bY).next hzl hb5 hR5);have vI:=ab (aa HPC l.tail w5 (aa dC).rdr ((aa HE).but (aa dC).but));clear hb5 hR5 jG HPC;go_wp2_with fail;refine(aa vI).mono ?_;intro e w6 hp
   cases hq:gc C.E p l.tail with
   | error x=>
    obtain⟨er,i⟩:=x;obtain⟨hb6,rfl⟩:=dr hp hq;have fq:=ab ((aa dC).but.trans hb6);have bN:Hid (RR=.error (er,i)):=ab (by rw[aa aU,hq,di])
    clear hp hb6 hq;unfold aC;go_wp2_with fail;exact⟨rfl,fu (aa bN) (aa fq) rfl⟩
   | ok x=>
    obtain⟨x,q⟩:=x;obtain⟨hb6,⟨U0,rfl,cA,cL⟩,hR6⟩:=dt hp hq;have qW:Below w6.heap.size w6 (w6.alloc (.cells (ai U0) 24)):=ba _;have l7:=((aa dC).next hzl hb6 hR6).below qW;have gF:=ab l7;have rs:Hid ((w6.alloc (.cells (ai U0) 24)).heap[w6.heap.size]? =some (.cells (ai U0) 24 (0,0))):=ab (ax rfl);have kT:Hid (U0.can=x∧bf (w.heap.size+1) (w6.alloc (.cells (ai U0) 24)) U0):=ab (⟨cA,(cL.mono (aa dC).size).below qW⟩);have bN:Hid (RR=.ok (k8 7 [x],q)):=ab (by rw[aa aU,hq,aQ])
    have nM:=ab (aa mR _ q l7.rdr);have hw6:w.heap.size+1≤w6.heap.size:=((aa dC).next hzl hb6 hR6).size;clear hp hb6 hq cA cL hR6 qW l7 vI mR;unfold pv;unfold ai at gF rs kT nM;go_wp2_with fail;refine(aa nM).mono ?_;rintro e w7 ⟨rfl,hb7,hR7⟩;have ql:=(aa gF).next hzl hb7 hR7;have uZ:=hb7.row (show w6.heap.size≠C.z by omega) (aa rs)
    obtain⟨s0,s1,s2,s3,s4⟩:=du uZ;have hl7:bf (w.heap.size+1) w7 U0:=(aa kT).2.but hb7 (by omega)
    obtain⟨U,⟨iR,rc⟩,fO,hli⟩:=xN (k:=7) (nm:=⟨#[]⟩) (KidsX.one (B:=w.heap.size+1) hl7 (aw _) ql.size) ⟨by decide,by decide⟩ (by decide)
    have uW:Below w7.heap.size w7 (w7.alloc (.cells (ai U0) 24)):=ba _;have bY:=ab (ql.below uW);have jF:Hid (U.can=k8 7 [x]∧bf (w.heap.size+1) (w7.alloc (.cells (ai U0) 24)) U):=ab (⟨by rw[fO,(aa kT).1];rfl,hli⟩)
    have kP:=ab (And.intro rc iR);clear hb7 hR7 uZ ql nM gF rs kT iR rc fO hli hl7 uW;unfold ai at bY jF;go_wp2_with (first
     | (refine bh rfl 24 _ _ rfl w.heap.size #[.int .i64 7,.string ⟨#[]⟩,.int .i64 0,.string ⟨#[]⟩,.slice (some ⟨w7.heap.size,0,none⟩) 1 1] rfl rfl 24 aB (aa bY).res eM rfl (by simp[Value.oneCell']) ?_)
     | fail)
    (try simp only[Exit.inBlock,Exit.then])
    refine bK (dM rfl _ _ w.heap.size 24 #[.int .i64 7,.string ⟨#[]⟩,.int .i64 0,.string ⟨#[]⟩,.slice (some ⟨w7.heap.size,0,none⟩) 1 1] (0,0) _ rfl (bW _ _ _ _ _ _ (aa bY).res) underlying24 rfl eM) rfl ?_;rw[←(aa kP).2];exact(aa bY).done (U:=U) (aa HR) (aa bN) (aa jF).1 (aa jF).2 _
open Go.RowKit
theorem Jw (E:Nat) (p:Option Lv):lF E p 4=gc E p:=rfl
theorem Jv {E:Nat} {p:Option Lv} {lv:Nat} (h1:1≤lv) (h2:lv≤3):lF E p lv=lG E lv (lF E p (lv+1)):=by
 have:lv=1∨lv=2∨lv=3:=by omega
 rcases this with rfl | rfl | rfl <;> rfl
def tkN (w:World) (z:Nat):Nat:=match w.cell? ⟨z,0,none⟩ with | some (.slice _ n _)=>n | _=>0
theorem Syr.tkN {C:SyC} {w:World} {l:List Tk} {o:Nat} (h:Syr C w l o):tkN w C.z=l.length:=by
 obtain⟨xa,cap,off,h1, -⟩:=h.blk;have:w.cell? ⟨C.z,0,none⟩=some (.slice xa l.length cap):=cr h1;unfold Go.Proofs.YtlmnjbipfacniaaGreatDoor.tkN;rw[this]
def ten (V U:PT):Array Value:= #[.int .i64 V.k,.string V.t,.int .i64 V.n,.string V.nm,.slice V.xa V.len V.cap,.int .i64 U.k,.string U.t,.int .i64 U.n,.string U.nm,.slice U.xa U.len U.cap]
theorem KE {w:World} {B g:Nat} {V U:PT} (h:w.heap[g]? =some (.cells (ten V U) 24 (0,0))) (hB:B≤g):bP w B 24 5 eH (.slice (some ⟨g,0,none⟩) 2 2) [V,U]:=
 ⟨rfl,.inr ⟨g,2,ten V U,rfl,hB,h,aw _,by unfold maxLen;decide,rfl,rfl⟩⟩
theorem Hn {B gk:Nat} {k:Int} {g:Option Nat} {w:World} {V U:PT} (hk:0≤k∧k≤100) (hr:w.heap[gk]? =some (.cells (ten V U) 24 (0,0))) (hB:B≤gk) (hg:some gk≠g) (hV:fX B g w V) (hU:fX B g w U):fX B g w (fS k ⟨#[]⟩ gk 2 [V,U]):=by
 intro X hX;have au:gk < w.heap.size:=(bC.1 hr).1;have hr2:X.heap[gk]? =some (.cells (ten V U) 24 (0,0)):=(hX gk hB au hg).trans hr;exact ED (KE hr2 (B:=B) hB) (fun x hx=>by
  simp only[dO,eg,fN] at hx;rcases hx with rfl | rfl
  ·exact hV X hX
  ·exact hU X hX) hk (by decide)
theorem kb_le (lv:Nat) (t:Tk):il lv t=0∨(8≤il lv t∧il lv t≤13):=by
 unfold il;split
 ·exact Cb _
 ·exact .inl rfl
theorem GE {E lv:Nat} {l:List Tk} (h:il lv (ak E 0 l)≠0):l≠[]:=by
 rintro rfl;exact h rfl
structure RwL (C:SyC) (o:Nat) (w:World) (gp:Nat) (wr:World) (l:List Tk) (V q:PT):Prop where
 res:XRes C o w wr l
 box:wr.heap[gp]? =some (.cells (ai V) 24 (0,0))
 can:V.can=q
 lies:fX (w.heap.size+1) (some gp) wr V
 low:w.heap.size < gp
theorem RwL.next {C:SyC} {o:Nat} {w:World} {gp:Nat} {wr w':World} {l l':List Tk} {V q:PT} (h:RwL C o w gp wr l V q) (hz:C.z < w.heap.size) (hb:But C.z wr w') (hR:Syr C w' l' o):RwL C o w gp w' l' V q:=
 ⟨h.res.next hz hb hR,hb.row (by have:=h.low;omega) h.box,h.can,h.lies.but hb (by omega),h.low⟩
theorem RwL.below {C:SyC} {o:Nat} {w:World} {gp:Nat} {wr w':World} {l:List Tk} {V q:PT} (h:RwL C o w gp wr l V q) (hb:Below wr.heap.size wr w'):RwL C o w gp w' l V q:=
 ⟨h.res.below hb,an h.box hb,h.can,h.lies.below hb,h.low⟩
theorem RwL.put {C:SyC} {o:Nat} {w:World} {l0:List Tk} {o0 gp gk:Nat} {W:World} {l:List Tk} {V q U y:PT} {k:Int} (h:RwL C o w gp W l V q) (h0:Syr C w l0 o0) (hk:0≤k∧k≤100) (hc:U.can=y) (hU:fX (w.heap.size+1) (some gp) W U)
  (hr:W.heap[gk]? =some (.cells (ten V U) 24 (0,0))) (hg:gp < gk):RwL C o w gp (W.setRow gp (ai (fS k ⟨#[]⟩ gk 2 [V,U]))) l (fS k ⟨#[]⟩ gk 2 [V,U]) (k8 k [q,y]):=by
 have hlo:=h.low;refine⟨⟨jU h.res.but (by omega) _,h.res.rdr.row h0 (by omega) _,(eZ W gp _ _ (by omega)).trans h.res.res⟩,bW _ _ _ _ _ _ h.box, ?_, ?_,hlo⟩
 ·rw[wS,fM,fM,jM,h.can,hc];rfl
 ·exact Hn hk ((eZ W gp gk _ (by omega)).trans hr) (by omega) (fun e=>by injection e with e;omega) (h.lies.setRow _) (hU.setRow _)
theorem Dj {d:Nat} (HSG:nX 168 d (fun E=>gc E (bV E d))):yB d 4:=by
 intro C l w hR hE;have HR:=ab hR;have hzl:=hR.lt;have bo:=ab (XRes.start hR);have HC:Hid (Calls prog 168 #[.pointer (some ⟨C.z,0,none⟩)] (w.alloc (.cells aB 24)) fun e w'=>fJ (eW (w.alloc (.cells aB 24)).heap.size) C (400 - d) (w.alloc (.cells aB 24)) (gc C.E (bV C.E d) l) e w'):=ab (HSG C l _ (aa bo).rdr (hE.but (aa bo).but))
 rw[Jw];obtain⟨RR,bD⟩:∃RR,RR=gc C.E (bV C.E d) l:=⟨_,rfl⟩;rw[←bD] at HC ⊢;clear hE HSG bD;generalize ho:400 - d=o at *;clear hR ho;go_enter func151,ntmps151;go_wp2_with fail;refine(aa HC).mono ?_;intro e w5 hp
 cases hq:RR with
 | error x=>
  obtain⟨er,i⟩:=x;obtain⟨hb5,rfl⟩:=dr hp hq;have dJ:=ab ((aa bo).but.trans hb5);have aU:=ab hq;clear hp hb5 hq;unfold aC;go_wp2_with fail;exact⟨rfl,fu (aa aU) (aa dJ) rfl⟩
 | ok x=>
  obtain⟨x,r⟩:=x;obtain⟨hb5,⟨U,rfl,cA,cL⟩,hR5⟩:=dt hp hq;have dC:=ab ((aa bo).next hzl hb5 hR5);have sM:Hid (U.can=x∧bf (w.heap.size+1) w5 U):=ab (⟨cA,cL.mono (aa bo).size⟩);have aU:=ab hq;clear hp hb5 hq cA cL hR5 HC;unfold pv;go_wp2_with (first
   | (refine bh rfl 24 _ _ rfl w.heap.size #[.int .i64 U.k,.string U.t,.int .i64 U.n,.string U.nm,.slice U.xa U.len U.cap] rfl rfl 24 aB (aa dC).res eM rfl (by simp[Value.oneCell']) ?_)
   | fail)
  (try simp only[Exit.inBlock,Exit.then])
  refine bK (dM rfl _ _ w.heap.size 24 #[.int .i64 U.k,.string U.t,.int .i64 U.n,.string U.nm,.slice U.xa U.len U.cap] (0,0) _ rfl (bW _ _ _ _ _ _ (aa dC).res) underlying24 rfl eM) rfl ?_;exact(aa dC).done (U:=U) (aa HR) (aa aU) (aa sM).1 (aa sM).2 _
theorem wQ {d lv:Nat} (h1:1≤lv) (h2:lv≤3) (HN:yB d (lv+1)):yB d lv:=by
 intro C l w hR hE;have HR:=ab hR;have HE:=ab hE;have hzl:=hR.lt;have bo:=ab (XRes.start hR);rw[Jv h1 h2];have iJ:Hid (∀l:List Tk,Le l.length (lF C.E (bV C.E d) (lv+1) l)):=ab (fun l=>Bx (Ad d) (lv+1) l)
 have HC:Hid (∀l w,Syr C w l (400 - d)→SyEnv C w→Calls prog 151 #[.pointer (some ⟨C.z,0,none⟩),.int .i64 ((lv:Int)+1)] w fun e w'=>fJ (eW w.heap.size) C (400 - d) w (lF C.E (bV C.E d) (lv+1) l) e w'):=ab (fun l w h k=>HN C l w h k)
 obtain⟨RR,bD⟩:∃RR,RR=lG C.E lv (lF C.E (bV C.E d) (lv+1)) l:=⟨_,rfl⟩;rw[←bD];have HQ:Hid (RR=aR (lF C.E (bV C.E d) (lv+1) l) fun x r=>kD C.E lv (lF C.E (bV C.E d) (lv+1)) (r.length+1) x r):=ab (bD)
 clear hE HN bD;generalize ho:400 - d=o at *;generalize lF C.E (bV C.E d) (lv+1)=PF at *;clear hR ho;have q4:((lv:Int)==4)=false:=bn;have hlv:lv≤3:=h2;have sO:=ab (aa HC l _ (aa bo).rdr ((aa HE).but (aa bo).but));clear h1 h2;go_enter func151,ntmps151;go_wp2_with fail;refine(aa sO).mono ?_;intro e w1 hp
 cases hq:PF l with
 | error x=>
  obtain⟨er,i⟩:=x;obtain⟨hb5,rfl⟩:=dr hp hq;have dJ:=ab ((aa bo).but.trans hb5);have aU:Hid (RR=.error (er,i)):=ab (by rw[aa HQ,hq,di])
  clear hp hb5 hq;unfold aC;go_wp2_with fail;exact⟨rfl,fu (aa aU) (aa dJ) rfl⟩
 | ok x=>
  obtain⟨x0,r0⟩:=x;obtain⟨hb1,⟨U,rfl,cA,cL⟩,hR1⟩:=dt hp hq;have mL:=(aa bo).next hzl hb1 hR1;have bp:Below w1.heap.size w1 (w1.alloc (.cells (ai U) 24)):=ba _;have jS:Hid (RwL C o w w1.heap.size (w1.alloc (.cells (ai U) 24)) r0 U x0):=ab (⟨mL.below bp,ax rfl,cA,cL.newrow (aa bo).size _,mL.size⟩);have bO:Hid (RR=kD C.E lv PF (r0.length+1) x0 r0):=ab (by rw[aa HQ,hq,aQ])
  clear hp hb1 hq cA cL hR1 mL bp sO HQ bo;unfold pv;go_wp2_with fail;rw[show (#[.int .i64 U.k,.string U.t,.int .i64 U.n,.string U.nm,.slice U.xa U.len U.cap]:Array Value)=ai U from rfl];generalize (w1.alloc (.cells (ai U) 24))=w2 at *;generalize w1.heap.size=gp at *;go_loopw [] (fun wr=>∃(l':List Tk) (V q:PT),Hid (RwL C o w gp wr l' V q)∧Hid (RR=kD C.E lv PF (l'.length+1) q l')) (fun wr=>tkN wr C.z)
  case atStart=>exact⟨r0,U,x0,aa jS,aa bO⟩
  case round=>
   obtain⟨l',V,q,HI,ko⟩:=hrel;have HM:=ab (aa HI).res.rdr.tkN;have gR:=ab (Jj lv wr (aa HI).res.rdr ((aa HE).but (aa HI).res.but));have hkl:=kb_le lv (ak C.E 0 l');have rx:=ab (fun (h:il lv (ak C.E 0 l')≠0) w k=>ug (C:=C) (l:=l') (o:=o) w k (GE h))
   have fc:=ab (fun h=>DL (E:=C.E) (lv:=lv) (N:=PF) (x:=q) (l:=l') h)
   have HSP:=ab (fun h=>DM (E:=C.E) (lv:=lv) (N:=PF) (aa iJ) (x:=q) (l:=l') h)
   have dW:=ab (fun (h:il lv (ak C.E 0 l')≠0)=>show l'.tail.length < l'.length from by have:=Ar.2 (GE h);rw[List.length_tail];omega)
   clear jS bO;generalize il lv (ak C.E 0 l')=kb at *
   by_cases ei:kb=0
   ·have aU:Hid (RR=.ok (q,l')):=ab (by rw[aa ko];exact aa fc ei)
    have e0:((kb:Int)==0)=true:=bt;clear ei hkl rx fc HSP dW;go_wp2_with fail;refine(aa gR).mono ?_;rintro e w3 ⟨rfl,hb3⟩;have jR:=ab ((aa HI).below hb3);obtain⟨s0,s1,s2,s3,s4⟩:=du (aa jR).box;clear hb3;go_wp2_with (first
     | (refine bh rfl 24 _ _ rfl w.heap.size (ai V) rfl rfl 24 aB (aa jR).res.res eM rfl (gZ V) ?_)
     | fail)
    (try simp only[Exit.inBlock,Exit.then])
    refine bK (dM rfl _ _ w.heap.size 24 (ai V) (0,0) _ rfl (bW _ _ _ _ _ _ (aa jR).res.res) underlying24 rfl eM) rfl ?_;exact(aa jR).res.done (U:=V) (aa HR) (aa aU) (aa jR).can (aa jR).lies.lies _
   ·have hk13:0≤(kb:Int)∧(kb:Int)≤100:=by omega
    have e0:((kb:Int)==0)=false:=bn;have aU:Hid (RR=aR (PF l'.tail) fun y r=>kD C.E lv PF (r.length+1) (k8 kb [q,y]) r):=ab (by rw[aa ko];exact aa HSP ei)
    have au:=aa dW ei;have HPS2:=ab (aa rx ei);clear ei hkl rx fc HSP dW ko;go_wp2_with fail;refine(aa gR).mono ?_;rintro e w3 ⟨rfl,hb3⟩;have jR:=ab ((aa HI).below hb3);clear hb3;go_wp2_with fail;refine(aa HPS2 _ (aa jR).res.rdr).mono ?_;rintro e w4 ⟨rfl,hb4,hR4⟩;have HI4:=ab ((aa jR).next hzl hb4 hR4);clear hb4 hR4 HPS2 jR;go_wp2_with fail;obtain⟨s0,s1,s2,s3,s4⟩:=du (aa HI4).box;obtain⟨S0,aN⟩:∃S0:World→Prop,S0=fun w'=>w'.cell? ⟨gp,0,none⟩=some (.int .i64 V.k)∧w'.cell? ⟨gp,1,none⟩=some (.string V.t)∧w'.cell? ⟨gp,2,none⟩=some (.int .i64 V.n)∧w'.cell? ⟨gp,3,none⟩=some (.string V.nm)∧w'.cell? ⟨gp,4,none⟩=some (.slice V.xa V.len V.cap):=⟨_,rfl⟩
    have ap:=ab aN;have hS:S0 w4.drew:=by rw[aN];exact⟨s0,s1,s2,s3,s4⟩
    have aW:Hid (∀W,W.heap[gp]? =some (.cells (ai V) 24 (0,0))→S0 W):=ab (fun W h=>by rw[aN];exact du h)
    have AE:=ab ((aa HI4).below (aV _ _).drew);have HRC:=ab (aa HC l'.tail w4.drew (aa AE).res.rdr ((aa HE).but (aa AE).res.but));have fU:IntKind.i64.wrap ((lv:Int)+1)=(lv:Int)+1:=(IntWalk.i64_left _).trans (IntWalk.wrap64_in _ (by omega))
    clear aN HC;refine gt 8 S0 ?_;intro F;refine aK F 0 ap hS ?_
    (try go_frame)
    refine aK F 1 ap hS ?_
    (try go_frame)
    refine aK F 2 ap hS ?_
    (try go_frame)
    refine aK F 3 ap hS ?_
    (try go_frame)
    refine aK F 4 ap hS ?_
    (try go_frame)
    refine ce 5 (fun K2 eD=> ?_)
    go_simp;refine(aa HRC).mono ?_;intro e w5 hp
    cases hq:PF l'.tail with
    | error x=>
     obtain⟨er,i⟩:=x;obtain⟨hb5,rfl⟩:=dr hp hq;have dJ:=ab ((aa AE).res.but.trans hb5);have bN:Hid (RR=.error (er,i)):=ab (by rw[aa aU,hq,di])
     clear hp hb5 hq;unfold aC;exact⟨rfl,fu (aa bN) (aa dJ) rfl⟩
    | ok x=>
     obtain⟨y,r⟩:=x;obtain⟨hb5,⟨U2,rfl,cA,cL⟩,hR5⟩:=dt hp hq;have hI5:=(aa AE).next hzl hb5 hR5;have hrl:=(aa iJ) l'.tail y r hq;have bN:Hid (RR=kD C.E lv PF (r.length+1) (k8 kb [q,y]) r):=ab (by rw[aa aU,hq,aQ])
     have hgpl:gp < w4.heap.size:=(bC.1 (aa HI4).box).1;have hgp5:gp < w5.heap.size:=(bC.1 hI5.box).1;have hU5:fX (w.heap.size+1) (some gp) w5 U2:=cL.except (by have:=(aa HI4).res.size;exact this) (fun i hi=>by injection hi with hi;subst hi;exact hgpl)
     have HI5:=ab hI5;unfold pv;refine eD _ _ (aa aW _ hI5.box) ?_;clear hS;have hS:S0 w5:=aa aW _ hI5.box;refine ce 6 (fun K3 cC=> ?_)
     go_simp;have gX:Below w5.heap.size w5 (w5.alloc (.cells (ten V U2) 24)):=ba _;have hI6:=hI5.below gX;refine cC _ _ (aa aW _ hI6.box) ?_;clear hS;have hS:S0 (w5.alloc (.cells (ten V U2) 24)):=aa aW _ hI6.box;refine ce 7 (fun K5 dy=> ?_)
     go_simp;refine dy _ _ hS ?_;refine gy (by kernel_rfl) rfl (by kernel_rfl) (fun K4 bw=> ?_)
     refine AX rfl (wp_store_row 24 (.tmp 5) (.tmp 30) rfl gp (ai (fS (kb:Int) ⟨#[]⟩ w5.heap.size 2 [V,U2])) rfl rfl 24 (ai V) hI6.box eM rfl (gZ _) ?_);refine bw _ _ ?_
     (try simp only[aH,aJ,aG])
     (try go_frame)
     have dY:=ab (hI6.put (k:=(kb:Int)) (gk:=w5.heap.size) (aa HR) hk13 cA (hU5.below gX) (ax rfl) hgp5);clear dy K5 bw cC eD K4 K3 K2 F hS ap aW hb5 hR5 gX hI5 hI6 hp hq cA cL hU5;go_wp2_with fail;exact⟨⟨r,_,_,aa dY,aa bN⟩,by rw[aa HM];exact Nat.lt_of_le_of_lt (Nat.le_of_eq (aa dY).res.rdr.tkN) (by omega)⟩
theorem DK:∀d:Nat,d≤400→yB d 1∧nX 168 d (fun E=>gc E (bV E d))∧nX 180 d (fun E=>eY E (bV E d))∧nX 136 d (fun E=>eX E (bV E d))
 | 0,hd=>by
  have HX:=Dm hd (fun d' h=>absurd h (by omega))
  have HP:=CX hd HX (fun d' h=>absurd h (by omega))
  have HS:=CO hd HP (fun d' h=>absurd h (by omega))
  exact⟨wQ (by decide) (by decide) (wQ (by decide) (by decide) (wQ (by decide) (by decide) (Dj HS))),HS,HP,HX⟩
 | d+1,hd=>by
  obtain⟨ih1,ih2,ih3, -⟩:=DK d (by omega)
  have HX:=Dm hd (fun d' h=>by obtain rfl:d=d':=(by omega);exact ih1)
  have HP:=CX hd HX (fun d' h=>by obtain rfl:d=d':=(by omega);exact ih3)
  have HS:=CO hd HP (fun d' h=>by obtain rfl:d=d':=(by omega);exact ih2)
  exact⟨wQ (by decide) (by decide) (wQ (by decide) (by decide) (wQ (by decide) (by decide) (Dj HS))),HS,HP,HX⟩
open Go.RowKit
theorem Iq {C:SyC} {l:List Tk} {o:Nat} (w:World) (hR:Syr C w l o):Calls prog 105 #[.pointer (some ⟨C.z,0,none⟩)] w fun e w'=>fJ lE C o w (j1 C.E l) e w'∧∀t r,j1 C.E l=.ok (t,r)→t.size≤2000:=by
 have kS:=ab (sS (ah 40) w hR);have nN:=ab (fun w l h=>sS (C:=C) (l:=l) (o:=o) (ah 41) w h)
 have fQ:=ab (fun w l h=>vP (C:=C) (l:=l) (o:=o) w h)
 obtain⟨RR,bD⟩:∃RR,RR=j1 C.E l:=⟨_,rfl⟩;rw[←bD];have HQ:Hid (RR=aR (ef C.E (ah 40) l) fun _ r=>aR (dL C.E r) fun t q=>aR (ef C.E (ah 41) q) fun _ m=>.ok (t,m)):=ab (bD)
 clear hR bD;unfold ah at kS nN HQ;go_enter func105,ntmps105;go_wp2_with fail;refine(aa kS).mono ?_;intro e w1 hp
 cases hq:ef C.E ⟨#[40]⟩ l with
 | error x=>
  obtain⟨er,i⟩:=x;obtain⟨hb1,rfl⟩:=dr hp hq;have aX:=ab hb1;have aU:Hid (RR=.error (er,i)):=ab (by rw[aa HQ,hq,di])
  clear hp hb1 hq;unfold aC;go_wp2_with fail;exact⟨rfl,fu (aa aU) (aa aX) rfl,fun t r h=>by rw[aa aU] at h;cases h⟩
 | ok x=>
  obtain⟨xu,r⟩:=x;obtain⟨hb1,rfl,hR1⟩:=dt hp hq;have aX:=ab hb1;have aU:Hid (RR=aR (dL C.E r) fun t q=>aR (ef C.E ⟨#[41]⟩ q) fun _ m=>.ok (t,m)):=ab (by rw[aa HQ,hq,aQ])
  have HNM1:=ab (aa fQ w1 r hR1);have ep:=ab (fun t q h=>oP (t:=t) (r:=q) hR1 h)
  clear hp hb1 hq hR1 fQ kS HQ;go_wp2_with fail;refine(aa HNM1).mono ?_;intro e w2 hp
  cases hq:dL C.E r with
  | error x=>
   obtain⟨er,i⟩:=x;obtain⟨hb2,rfl⟩:=dr hp hq;have aE:=ab ((aa aX).trans hb2);have bN:Hid (RR=.error (er,i)):=ab (by rw[aa aU,hq,di])
   clear hp hb2 hq;unfold aC;go_wp2_with fail;exact⟨rfl,fu (aa bN) (aa aE) rfl,fun t r h=>by rw[aa bN] at h;cases h⟩
  | ok x=>
   obtain⟨t,q⟩:=x;obtain⟨hb2,rfl,cX⟩:=dt hp hq;have aE:=ab ((aa aX).trans hb2);have HT:=ab (aa ep t q hq);have bN:Hid (RR=aR (ef C.E ⟨#[41]⟩ q) fun _ m=>.ok (t,m)):=ab (by rw[aa aU,hq,aQ])
   have HN3:=ab (aa nN w2 q cX);clear hp hb2 hq cX nN HNM1 ep aU;go_wp2_with fail;refine(aa HN3).mono ?_;intro e w3 hp
   cases hq:ef C.E ⟨#[41]⟩ q with
   | error x=>
    obtain⟨er,i⟩:=x;obtain⟨hb3,rfl⟩:=dr hp hq;have ao:=ab ((aa aE).trans hb3);have dQ:Hid (RR=.error (er,i)):=ab (by rw[aa bN,hq,di])
    clear hp hb3 hq;unfold aC;go_wp2_with fail;exact⟨rfl,fu (aa dQ) (aa ao) rfl,fun t r h=>by rw[aa dQ] at h;cases h⟩
   | ok x=>
    obtain⟨xu2,m⟩:=x;obtain⟨hb3,rfl,hR3⟩:=dt hp hq;have HZ:=ab (And.intro ((aa aE).trans hb3) hR3);have dQ:Hid (RR=.ok (t,m)):=ab (by rw[aa bN,hq,aQ])
    clear hp hb3 hq hR3;go_wp2_with fail;go_ret;exact⟨nS (aa dQ) (aa HZ).1 rfl (aa HZ).2,fun t' r' h=>by rw[aa dQ] at h;injection h with h;injection h with h _;rw[←h];exact aa HT⟩
def BoxS (s:Nat) (w:World):Prop:=∃C:Array Value,w.heap[s]? =some (.cells C 30 (0,0))∧C.size=24∧C.all (·.oneCell')=true
structure But2 (z s:Nat) (w w':World):Prop where
 os:w'.os=w.os
 tape:w'.tape=w.tape
 output:w'.output=w.output
 size:w.heap.size≤w'.heap.size
 block:∀k,k < w.heap.size→k≠z→k≠s→w'.heap[k]? =w.heap[k]?
 box:s≠z→BoxS s w→BoxS s w'
theorem But2.of {z s:Nat} {w w':World} (h:But z w w'):But2 z s w w':=⟨h.os,h.tape,h.output,h.size,fun k h1 h2 _=>h.block k h1 h2,fun hn ⟨C,h1,h2,h3⟩=>⟨C,(h.block s (bC.1 h1).1 hn).trans h1,h2,h3⟩⟩
theorem But2.trans {z s:Nat} {a b c:World} (h:But2 z s a b) (k:But2 z s b c):But2 z s a c:=
 ⟨k.os.trans h.os,k.tape.trans h.tape,k.output.trans h.output,bv h.size k.size,fun i h1 h2 h3=>(k.block i (gL h1 h.size) h2 h3).trans (h.block i h1 h2 h3),fun hn q=>k.box hn (h.box hn q)⟩
theorem But2.set {z s:Nat} {a b:World} (h:But2 z s a b) (k:Nat) (v:Value) (hv:v.oneCell'=true:=by rfl):But2 z s a (b.setCell ⟨s,k,none⟩ v):=
 ⟨h.os,h.tape,h.output,by rw[og];exact h.size,fun i h1 h2 h3=>(dh b ⟨s,k,none⟩ i v h3).trans (h.block i h1 h2 h3),fun hn q=>by
  obtain⟨C,h1,h2,h3⟩:=h.box hn q;refine⟨C.setIfInBounds k v,fB b s k _ _ v h1,by rw[Array.size_setIfInBounds];exact h2, ?_⟩
  rw[Array.all_eq_true'] at h3 ⊢;intro u hu;rcases Array.mem_or_eq_of_mem_setIfInBounds hu with q | q
  ·exact h3 u q
  ·rw[q];exact hv⟩
structure StIn (B sb:Nat) (w:World) (S P:SV):Prop where
 box:w.heap[sb]? =some (.cells S.cells 30 (0,0))
 can:S.can=P
 txt:S.lab.size≤2000∧S.nm.size≤2000∧S.en.size≤2000∧S.al.size≤2000∧S.ye.size≤2000∧S.no.size≤2000
 tg:bf B w S.tg
 va:bf B w S.va
 pa:bf B w S.pa
 ps:lD B w S.ps
 ls:lD B w S.ls
theorem lD.step {B:Nat} {w w':World} {N:NL} (h:lD B w N) (hs:w.heap.size≤w'.heap.size) (hb:∀i,B≤i→i < w.heap.size→w'.heap[i]? =w.heap[i]?):lD B w' N:=
 fun X hX=>h X fun i h1 h2=>(hX i h1 (by omega)).trans (hb i h1 h2)
section
variable {B sb:Nat} {w w':World} {S P:SV}
theorem StIn.next (h:StIn B sb w S P) (hx:w'.heap[sb]? =some (.cells S.cells 30 (0,0))) (hs:w.heap.size≤w'.heap.size) (hb:∀i,B≤i→i < w.heap.size→w'.heap[i]? =w.heap[i]?):StIn B sb w' S P:=
 ⟨hx,h.can,h.txt,h.tg.step hs hb,h.va.step hs hb,h.pa.step hs hb,h.ps.step hs hb,h.ls.step hs hb⟩
theorem StIn.but {z:Nat} (h:StIn B sb w S P) (hb:But z w w') (hz:z < B) (bi:sb≠z):StIn B sb w' S P:=h.next (hb.row bi h.box) hb.size fun i h1 h2=>hb.block i h2 (by omega)
theorem StIn.below (h:StIn B sb w S P) (hb:Below w.heap.size w w'):StIn B sb w' S P:=h.next (an h.box hb) hb.size fun i _ h2=>hb.block i h2
theorem StIn.fz (h:StIn B sb w S P) (k:Nat):w.frozen? ⟨sb,k,none⟩=false:=cN w sb k _ _ h.box
theorem StIn.cell (h:StIn B sb w S P) {k:Nat} {v:Value} (hv:S.cells[k]? =some v):w.cell? ⟨sb,k,none⟩=some v:=by rw[eB _ _ _ _ _ _ h.box];exact hv
theorem StIn.put {S' P':SV} {k:Nat} {v:Value} (h:StIn B sb w S P) (hsb:sb < B) (hc:S.cells.setIfInBounds k v=S'.cells) (cA:S'.can=P') (ht:S'.lab.size≤2000∧S'.nm.size≤2000∧S'.en.size≤2000∧S'.al.size≤2000∧S'.ye.size≤2000∧S'.no.size≤2000)
  (h1:S'.tg=S.tg) (h2:S'.va=S.va) (h3:S'.pa=S.pa) (h4:S'.ps=S.ps) (h5:S'.ls=S.ls):StIn B sb (w.setCell ⟨sb,k,none⟩ v) S' P':=by
 have hs:w.heap.size≤(w.setCell ⟨sb,k,none⟩ v).heap.size:=by rw[og];exact aw _
 have hb:∀i,B≤i→i < w.heap.size→(w.setCell ⟨sb,k,none⟩ v).heap[i]? =w.heap[i]? :=fun i h1 _=>dh w ⟨sb,k,none⟩ i v (by show i≠sb;omega)
 refine⟨?_,cA,ht,by rw[h1];exact h.tg.step hs hb,by rw[h2];exact h.va.step hs hb,by rw[h3];exact h.pa.step hs hb,by rw[h4];exact h.ps.step hs hb,by rw[h5];exact h.ls.step hs hb⟩
 rw[←hc];exact fB w sb k _ _ v h.box
end
def iz (C:SyC) (o B sb:Nat) (w:World) (R:Sy SV) (e:Ending) (w':World):Prop:=
 But2 C.z sb w w'∧(match R with | .ok x=>e=.returned (.tuple #[])∧Syr C w' x.2 o∧∃S,StIn B sb w' S x.1 | .error x=>e=aC x.1 x.2)
section
variable {C:SyC} {o B sb:Nat} {w w':World} {R:Sy SV} {e:Ending}
theorem wP {S P:SV} {j:List Tk} (h:R=.ok (P,j)) (hb:But2 C.z sb w w') (he:e=.returned (.tuple #[])) (hr:Syr C w' j o) (hs:StIn B sb w' S P):iz C o B sb w R e w':=by subst h;exact⟨hb,he,hr,S,hs⟩
theorem fi {er:Int} {i:Nat} (h:R=.error (er,i)) (hb:But2 C.z sb w w') (he:e=aC er i):iz C o B sb w R e w':=by subst h;exact⟨hb,he⟩
theorem ym {P:SV} {j:List Tk} (h:iz C o B sb w R e w') (hr:R=.ok (P,j)):But2 C.z sb w w'∧e=.returned (.tuple #[])∧Syr C w' j o∧∃S,StIn B sb w' S P:=by subst hr;exact⟨h.1,h.2.1,h.2.2.1,h.2.2.2⟩
theorem xY {er:Int} {i:Nat} (h:iz C o B sb w R e w') (hr:R=.error (er,i)):But2 C.z sb w w'∧e=aC er i:=by subst hr;exact h
end
structure SyS (C:SyC) (B sb:Nat):Prop where
 z:C.z < B
 s:sb < B
 ne:sb≠C.z
 ng:sb≠C.g
 nb:sb≠C.bb
theorem Syr.stm {C:SyC} {w:World} {l:List Tk} {o B sb k:Nat} {v:Value} (h:Syr C w l o) (hS:SyS C B sb):Syr C (w.setCell ⟨sb,k,none⟩ v) l o:=
 h.same (dh w ⟨sb,k,none⟩ _ v (Ne.symm hS.ne)) (dh w ⟨sb,k,none⟩ _ v (Ne.symm hS.ng)) (dh w ⟨sb,k,none⟩ _ v (Ne.symm hS.nb))
open Go.RowKit
theorem B4 {E:Nat} {l:List Tk} {s:ByteArray} (h:fL (ak E 0 l) s=true):l≠[]:=by
 rintro rfl
 revert h
 exact(fun h=>by unfold fL ak at h;simp at h)
section
variable {E:Nat} {S:SV} {l r:List Tk} {t:ByteArray}
theorem Kg (h:aL (ak E 0 l) (ah 58)=false):fZ E S l=.ok (S,l):=by unfold fZ;rw[ac (by rw[h];decide)]
theorem wyS_al (h:aL (ak E 0 l) (ah 58)=true) (h1:aL (ak E 0 l.tail) (ah 40)=true):fZ E S l=aR (j1 E l.tail) fun t r=>.ok ({S with al:=t},r):=by unfold fZ;rw[af h,af h1]
theorem wyS_ye (h:aL (ak E 0 l) (ah 58)=true) (h1:aL (ak E 0 l.tail) (ah 40)=false) (h2:fL (ak E 0 l.tail) (ah 83)=true):fZ E S l=aR (j1 E l.tail.tail) fun t r=>m5 E true {S with ye:=t} r:=by unfold fZ;rw[af h,ac (by rw[h1];decide),af h2]
theorem wyS_no (h:aL (ak E 0 l) (ah 58)=true) (h1:aL (ak E 0 l.tail) (ah 40)=false) (h2:fL (ak E 0 l.tail) (ah 83)=false):fZ E S l=m5 E false S l.tail:=by unfold fZ;rw[af h,ac (by rw[h1];decide),ac (by rw[h2];decide)]
theorem Gx {y:Bool} (h:fL (ak E 0 l) (ah 70)=true):m5 E y S l=aR (j1 E l.tail) fun t r=>.ok ({S with no:=t},r):=by unfold m5;rw[af h]
theorem L2 (h:fL (ak E 0 l) (ah 70)=false):m5 E true S l=.ok (S,l):=by unfold m5;rw[ac (by rw[h];decide),af rfl]
theorem L3 (h:fL (ak E 0 l) (ah 70)=false):m5 E false S l=.error (2,(ak E 0 l).a):=by unfold m5;rw[ac (by rw[h];decide),ac (by decide)]
end
structure StR (C:SyC) (o B sb:Nat) (w W:World) (l:List Tk) (S P:SV):Prop where
 but:But2 C.z sb w W
 rdr:Syr C W l o
 stm:StIn B sb W S P
section
variable {C:SyC} {o B sb:Nat} {w W W':World} {l l':List Tk} {S P:SV}
theorem StR.next (h:StR C o B sb w W l S P) (hS:SyS C B sb) (hb:But C.z W W') (hR:Syr C W' l' o):StR C o B sb w W' l' S P:=⟨h.but.trans (But2.of hb),hR,h.stm.but hb hS.z hS.ne⟩
theorem StR.below (h:StR C o B sb w W l S P) (hb:Below W.heap.size W W'):StR C o B sb w W' l S P:=⟨h.but.trans (But2.of (But.of_below hb)),h.rdr.below hb,h.stm.below hb⟩
theorem But2.refl (z s:Nat) (w:World):But2 z s w w:=⟨rfl,rfl,rfl,aw _,fun _ _ _ _=>rfl,fun _ q=>q⟩
theorem StR.al (h:StR C o B sb w W l S P) (hS:SyS C B sb) {t:ByteArray} (ht:t.size≤2000):StR C o B sb w (W.setCell ⟨sb,21,none⟩ (.string t)) l {S with al:=t} {P with al:=t}:=
 ⟨h.but.set _ _,h.rdr.stm hS,h.stm.put hS.s rfl (by rw[←h.stm.can];rfl) ⟨h.stm.txt.1,h.stm.txt.2.1,h.stm.txt.2.2.1,ht,h.stm.txt.2.2.2.2.1,h.stm.txt.2.2.2.2.2⟩ rfl rfl rfl rfl rfl⟩
theorem StR.ye (h:StR C o B sb w W l S P) (hS:SyS C B sb) {t:ByteArray} (ht:t.size≤2000):StR C o B sb w (W.setCell ⟨sb,22,none⟩ (.string t)) l {S with ye:=t} {P with ye:=t}:=
 ⟨h.but.set _ _,h.rdr.stm hS,h.stm.put hS.s rfl (by rw[←h.stm.can];rfl) ⟨h.stm.txt.1,h.stm.txt.2.1,h.stm.txt.2.2.1,h.stm.txt.2.2.2.1,ht,h.stm.txt.2.2.2.2.2⟩ rfl rfl rfl rfl rfl⟩
theorem StR.no (h:StR C o B sb w W l S P) (hS:SyS C B sb) {t:ByteArray} (ht:t.size≤2000):StR C o B sb w (W.setCell ⟨sb,23,none⟩ (.string t)) l {S with no:=t} {P with no:=t}:=
 ⟨h.but.set _ _,h.rdr.stm hS,h.stm.put hS.s rfl (by rw[←h.stm.can];rfl) ⟨h.stm.txt.1,h.stm.txt.2.1,h.stm.txt.2.2.1,h.stm.txt.2.2.2.1,h.stm.txt.2.2.2.2.1,ht⟩ rfl rfl rfl rfl rfl⟩
theorem StR.done {RR:Sy SV} (h:StR C o B sb w W l S P) (hq:RR=.ok (P,l)):iz C o B sb w RR (.returned (.tuple #[])) W:=wP hq h.but rfl h.rdr h.stm
end
theorem y7 {C:SyC} {l:List Tk} {o B sb:Nat} {S P:SV} (w:World) (hS:SyS C B sb) (hR:Syr C w l o) (hI:StIn B sb w S P):Calls prog 55 #[.pointer (some ⟨C.z,0,none⟩),.pointer (some ⟨sb,0,none⟩)] w fun e w'=>iz C o B sb w (fZ C.E P l) e w':=by
 have H0:Hid (StR C o B sb w w l S P):=ab (⟨But2.refl _ _ _,hR,hI⟩);have HS:=ab hS;have gG:=ab (fun w l h=>rH (C:=C) (l:=l) (o:=o) w h)
 have pj:=ab (fun w l h=>Iq (C:=C) (l:=l) (o:=o) w h)
 have rx:=ab (fun w l h (q:l≠[])=>ug (C:=C) (l:=l) (o:=o) w h q)
 have fc:=ab (fun w l h=>rJ (C:=C) (l:=l) (o:=o) w h)
 obtain⟨RR,bD⟩:∃RR,RR=fZ C.E P l:=⟨_,rfl⟩;rw[←bD];have HQ:=ab bD;clear hR hI hS bD
 cases h1:aL (ak C.E 0 l) (ah 58)
 ·have HC:=ab (pK (ah 58) w (aa H0).rdr h1)
  have bO:Hid (RR=.ok (P,l)):=ab (by rw[aa HQ];exact Kg h1)
  clear HQ h1 gG pj rx fc;unfold ah at HC;go_enter func55,ntmps55;go_wp2_with fail;refine(aa HC).mono ?_;rintro e w1 ⟨rfl,hb1⟩;have H1:=ab ((aa H0).below hb1);clear hb1;go_wp2_with fail;refine bK (results_none rfl _ _ _) rfl ?_;exact(aa H1).done (aa bO)
 ·have HC:=ab (pJ (ah 58) w (aa H0).rdr h1)
  have bO:=ab (fun h2=>(aa HQ).trans (wyS_al (S:=P) h1 h2))
  have aU:=ab (fun h2 h3=>(aa HQ).trans (wyS_ye (S:=P) h1 h2 h3))
  have bN:=ab (fun h2 h3=>(aa HQ).trans (wyS_no (S:=P) h1 h2 h3))
  clear HQ h1;unfold ah at HC bO aU bN;have HL:=ab (Eq.refl l.tail);generalize l.tail=l1 at *;have eV:=ab (fun w=>uf (ak C.E 0 l1) ⟨#[40]⟩ w)
  have sN:=ab (fun w=>zg (ak C.E 0 l1) ⟨#[83]⟩ w)
  have sD:=ab (fun w h=>aa gG w l1 h)
  generalize htv:jt (ak C.E 0 l1)=tv at *;clear htv;go_enter func55,ntmps55;go_wp2_with fail;refine(aa HC).mono ?_;rintro e w1 ⟨rfl,hb1,hR1⟩;have H1:=ab ((aa H0).next (aa HS) hb1 hR1);have pu:=ab (aa sD w1 hR1);clear hb1 hR1 HC;go_wp2_with fail;refine(aa pu).mono ?_;rintro e w2 ⟨rfl,hb2⟩;have H2:=ab ((aa H1).below hb2);clear hb2 pu
  cases h2:aL (ak C.E 0 l1) ⟨#[40]⟩
  ·rw[h2] at eV
   have aU:=ab (aa aU h2);have bN:=ab (aa bN h2);clear h2 bO;go_wp2_with fail;refine(aa eV _).mono ?_;rintro e w3 ⟨rfl,hb3⟩;have H3:=ab ((aa H2).below hb3);have tV:=ab (aa sD w3 (aa H3).rdr);clear hb3 eV;go_wp2_with fail;refine(aa tV).mono ?_;rintro e w4 ⟨rfl,hb4⟩;have H4:=ab ((aa H3).below hb4);clear hb4 tV
   cases h3:fL (ak C.E 0 l1) ⟨#[83]⟩
   ·rw[h3] at sN
    have dQ:=ab (aa bN h3);clear h3 aU bN;go_wp2_with fail;refine(aa sN _).mono ?_;rintro e w5 ⟨rfl,hb5⟩;have H5:=ab ((aa H4).below hb5);clear hb5 sN;go_wp2_with fail;have pE:=ab (fun w=>zg (ak C.E 0 l1) ⟨#[70]⟩ w)
    have HT8:=ab (aa gG _ l1 (aa H5).rdr);generalize htv:jt (ak C.E 0 l1)=tv2 at *;clear htv;refine(aa HT8).mono ?_;rintro e w8 ⟨rfl,jh⟩;have H8:=ab ((aa H5).below jh);clear jh HT8
    cases h8:fL (ak C.E 0 l1) ⟨#[70]⟩
    ·rw[h8] at pE
     have fd:Hid (RR=.error (2,(ak C.E 0 l1).a)):=ab ((aa dQ).trans (L3 h8));clear h8;go_wp2_with fail;refine(aa pE _).mono ?_;rintro e w9 ⟨rfl,hb9⟩;have H9:=ab ((aa H8).below hb9);have HT9:=ab (aa fc w9 l1 (aa H9).rdr);clear hb9 pE;generalize (ak C.E 0 l1).a=ae at *;go_wp2_with fail;refine(aa HT9).mono ?_;rintro e lO ⟨rfl,uV⟩;have iw:=ab ((aa H9).below uV);clear uV;unfold aC;go_wp2_with fail;exact⟨rfl,fi (aa fd) (aa iw).but rfl⟩
    ·rw[h8] at pE
     have HNE8:=ab (B4 h8);have dQ:=ab ((aa dQ).trans (Gx h8));clear h8;go_wp2_with fail;refine(aa pE _).mono ?_;rintro e w9 ⟨rfl,hb9⟩;have H9:=ab ((aa H8).below hb9);have sI:=ab (aa rx w9 l1 (aa H9).rdr (aa HNE8));clear hb9 pE;go_wp2_with fail;refine(aa sI).mono ?_;rintro e lO ⟨rfl,uV,wD⟩;have iw:=ab ((aa H9).next (aa HS) uV wD);have HW10:=ab (aa pj lO l1.tail wD);clear uV wD sI;go_wp2_with fail;refine(aa HW10).mono ?_;rintro e w7 ⟨hp,ay⟩
     cases hq:j1 C.E l1.tail with
     | error x=>
      obtain⟨er,i⟩:=x;obtain⟨hb7,rfl⟩:=dr hp hq;have jk:=ab ((aa iw).but.trans (But2.of hb7));have fd:Hid (RR=.error (er,i)):=ab (by rw[aa dQ,hq,di])
      clear hp hb7 hq ay;unfold aC;go_wp2_with fail;exact⟨rfl,fi (aa fd) (aa jk) rfl⟩
     | ok x=>
      obtain⟨t2,r2⟩:=x;have yN:=ay t2 r2 hq;obtain⟨hb7,rfl,hR7⟩:=dt hp hq;have h7:=(aa iw).next (aa HS) hb7 hR7;have nI:=h7.stm.cell (k:=23) (show (S).cells[23]? =some (.string (S).no) from rfl);have f22:=h7.stm.fz 23;have H8:=ab (h7.no (aa HS) yN);have fd:Hid (RR=.ok ({P with no:=t2},r2)):=ab (by rw[aa dQ,hq,aQ])
      clear hp hb7 hq ay hR7 h7;go_wp2_with fail
      (first | go_end0 | refine bK (results_none rfl _ _ _) rfl ?_)
      exact(aa H8).done (aa fd)
   ·rw[h3] at sN
    have pA:=ab (B4 h3);have dQ:=ab (aa aU h3);clear h3 aU bN;go_wp2_with fail;refine(aa sN _).mono ?_;rintro e w5 ⟨rfl,hb5⟩;have H5:=ab ((aa H4).below hb5);have kQ:=ab (aa rx w5 l1 (aa H5).rdr (aa pA));clear hb5 sN;go_wp2_with fail;refine(aa kQ).mono ?_;rintro e w6 ⟨rfl,hb6,hR6⟩;have H6:=ab ((aa H5).next (aa HS) hb6 hR6);have HW6:=ab (aa pj w6 l1.tail hR6);clear hb6 hR6 kQ;go_wp2_with fail;refine(aa HW6).mono ?_;rintro e w7 ⟨hp,ay⟩
    cases hq:j1 C.E l1.tail with
    | error x=>
     obtain⟨er,i⟩:=x;obtain⟨hb7,rfl⟩:=dr hp hq;have jk:=ab ((aa H6).but.trans (But2.of hb7));have fd:Hid (RR=.error (er,i)):=ab (by rw[aa dQ,hq,di])
     clear hp hb7 hq ay;unfold aC;go_wp2_with fail;exact⟨rfl,fi (aa fd) (aa jk) rfl⟩
    | ok x=>
     obtain⟨t,r⟩:=x;have iQ:=ay t r hq;obtain⟨hb7,rfl,hR7⟩:=dt hp hq;have h7:=(aa H6).next (aa HS) hb7 hR7;have nI:=h7.stm.cell (k:=22) (show S.cells[22]? =some (.string S.ye) from rfl);have f22:=h7.stm.fz 22;have H5:=ab (h7.ye (aa HS) iQ);have dQ:Hid (RR=m5 C.E true {P with ye:=t} r):=ab (by rw[aa dQ,hq,aQ])
     clear hp hb7 hq ay hR7 h7 HW6 H6;go_wp2_with fail;clear nI f22;have pE:=ab (fun w=>zg (ak C.E 0 r) ⟨#[70]⟩ w)
     have HT8:=ab (aa gG _ r (aa H5).rdr);generalize htv:jt (ak C.E 0 r)=tv2 at *;clear htv;refine(aa HT8).mono ?_;rintro e w8 ⟨rfl,jh⟩;have H8:=ab ((aa H5).below jh);clear jh HT8
     cases h8:fL (ak C.E 0 r) ⟨#[70]⟩
     ·rw[h8] at pE
      have fd:Hid (RR=.ok (_,r)):=ab ((aa dQ).trans (L2 h8));clear h8;go_wp2_with fail;refine(aa pE _).mono ?_;rintro e w9 ⟨rfl,hb9⟩;have H9:=ab ((aa H8).below hb9);clear hb9 pE;go_wp2_with fail
      (first | go_end0 | refine bK (results_none rfl _ _ _) rfl ?_)
      exact(aa H9).done (aa fd)
     ·rw[h8] at pE
      have HNE8:=ab (B4 h8);have dQ:=ab ((aa dQ).trans (Gx h8));clear h8;go_wp2_with fail;refine(aa pE _).mono ?_;rintro e w9 ⟨rfl,hb9⟩;have H9:=ab ((aa H8).below hb9);have sI:=ab (aa rx w9 r (aa H9).rdr (aa HNE8));clear hb9 pE;go_wp2_with fail;refine(aa sI).mono ?_;rintro e lO ⟨rfl,uV,wD⟩;have iw:=ab ((aa H9).next (aa HS) uV wD);have HW10:=ab (aa pj lO r.tail wD);clear uV wD sI;go_wp2_with fail;refine(aa HW10).mono ?_;rintro e w7 ⟨hp,ay⟩
      cases hq:j1 C.E r.tail with
      | error x=>
       obtain⟨er,i⟩:=x;obtain⟨hb7,rfl⟩:=dr hp hq;have jk:=ab ((aa iw).but.trans (But2.of hb7));have fd:Hid (RR=.error (er,i)):=ab (by rw[aa dQ,hq,di])
       clear hp hb7 hq ay;unfold aC;go_wp2_with fail;exact⟨rfl,fi (aa fd) (aa jk) rfl⟩
      | ok x=>
       obtain⟨t2,r2⟩:=x;have yN:=ay t2 r2 hq;obtain⟨hb7,rfl,hR7⟩:=dt hp hq;have h7:=(aa iw).next (aa HS) hb7 hR7;have nI:=h7.stm.cell (k:=23) (show ({S with ye:=t}).cells[23]? =some (.string ({S with ye:=t}).no) from rfl)
       have f22:=h7.stm.fz 23;have H8:=ab (h7.no (aa HS) yN);have fd:Hid (RR=.ok ({{P with ye:=t} with no:=t2},r2)):=ab (by rw[aa dQ,hq,aQ])
       clear hp hb7 hq ay hR7 h7;go_wp2_with fail
       (first | go_end0 | refine bK (results_none rfl _ _ _) rfl ?_)
       exact(aa H8).done (aa fd)
  ·rw[h2] at eV
   have dQ:=ab (aa bO h2);have HW:=ab (fun w h=>aa pj w l1 h)
   clear h2 bO aU bN sN rx fc gG pj;go_wp2_with fail;refine(aa eV _).mono ?_;rintro e w3 ⟨rfl,hb3⟩;have H3:=ab ((aa H2).below hb3);have dG:=ab (aa HW w3 (aa H3).rdr);clear hb3 eV HW;go_wp2_with fail;refine(aa dG).mono ?_;rintro e w7 ⟨hp,ay⟩
   cases hq:j1 C.E l1 with
   | error x=>
    obtain⟨er,i⟩:=x;obtain⟨hb7,rfl⟩:=dr hp hq;have jk:=ab ((aa H3).but.trans (But2.of hb7));have fd:Hid (RR=.error (er,i)):=ab (by rw[aa dQ,hq,di])
    clear hp hb7 hq ay;unfold aC;go_wp2_with fail;exact⟨rfl,fi (aa fd) (aa jk) rfl⟩
   | ok x=>
    obtain⟨t2,r2⟩:=x;have yN:=ay t2 r2 hq;obtain⟨hb7,rfl,hR7⟩:=dt hp hq;have h7:=(aa H3).next (aa HS) hb7 hR7;have nI:=h7.stm.cell (k:=21) (show (S).cells[21]? =some (.string (S).al) from rfl);have f22:=h7.stm.fz 21;have H8:=ab (h7.al (aa HS) yN);have fd:Hid (RR=.ok ({P with al:=t2},r2)):=ab (by rw[aa dQ,hq,aQ])
    clear hp hb7 hq ay hR7 h7;go_wp2_with fail
    (first | go_end0 | refine bK (results_none rfl _ _ _) rfl ?_)
    exact(aa H8).done (aa fd)
end Go.Proofs.YtlmnjbipfacniaaGreatDoor
