/- Statements that differ in where they lie alone: what is wron -/
import Derived.Test.YtlmnjbipfacniaaGreatDoorPrintExt4M
import Derived.Test.YtlmnjbipfacniaaGreatDoorWrNM
import Derived.Test.YtlmnjbipfacniaaGreatDoorPatRightM
import Derived.Test.YtlmnjbipfacniaaGreatDoorRtEM
import Derived.Test.YtlmnjbipfacniaaGreatDoorBxBM
set_option maxRecDepth 100000
set_option maxHeartbeats 8000000
namespace Go.Proofs.YtlmnjbipfacniaaGreatDoor
open Go.Proofs.Tryz
open Go.RowKit
theorem Ma:∀T:PT,T.can.bar=T.bar:=sG fun T ih=>by
 rw[PT.bar_eq T.can,rF,xr,xt,xl,sN,PT.bar_eq T,uY];exact aJ _ (uS fun x hx=>ih x hx)
theorem EF:∀T:PT,T.can.bex=T.bex:=sG fun T ih=>by
 rw[PT.bex_eq T.can,rF,xr,xt,xl,sN,PT.bex_eq T,uY];exact aJ _ (uS fun x hx=>ih x hx)
theorem Kq (T:PT):T.can.fits=T.fits:=by unfold PT.fits;rw[Ac,Ab]
theorem Kr (T:PT):cJ T.can=cJ T:=by unfold cJ;rw[rF,xr,xt,xl,uw]
theorem L9 {T:PT} {i:Nat} (h:i < T.len):T.can.kid i=(T.kid i).can:=by
 have e:=sN T;have e2:=aJ (fun l=>l[i]?) e
 simp only[rP] at e2;rw[PT.lst_at (by rw[uw];exact h),PT.lst_at h] at e2
 exact k8 e2
theorem Ks:∀T:PT,T.can.badX=T.badX:=PT.ind fun T ih=>by
 rw[PT.badX_eq T.can,PT.badX_eq T,Kr,uw];rw[xJ (f:=fun i=>(T.can.kid i).badX) (g:=fun i=>(T.kid i).badX) T.len fun i hi=>by rw[L9 hi,ih i hi]]
theorem De (T:PT):T.can.wrongX=T.wrongX:=by unfold PT.wrongX;rw[Kq,Ks]
theorem L8 (T:PT):jo T.can=jo T:=by unfold jo;rw[De,rF]
theorem KU (S:SV):S.can.kndE=S.kndE:=by
 unfold SV.kndE SV.dfE SV.can;dsimp only;rw[De,L8,Kp];rfl
theorem JF (S:SV):S.can.wrong=S.wrong:=by
 have h:=KU S;unfold SV.wrong;rw[h];rfl
theorem MA (S:SV):S.can.bst=S.bst:=by
 unfold SV.bst SV.can;dsimp only;rw[EF,EF,Ma];rfl
open Go.RowKit
theorem rdP_nz {s:ByteArray} {er:Int} {a:Nat} (h:jq s=.error (er,a)):er≠0:=by
 unfold jq at h;split at h
 ·injection h with h;injection h with h _;omega
 ·rcases ed h with h | ⟨p,j,h1,h⟩
  ·exact Cb h
  ·split at h
   ·cases h
   ·injection h with h;injection h with h _;omega
def az {α:Type} (R:Sy α):Prop:=∀er a,R=.error (er,a)→er≠0
section
variable {α β:Type}
theorem az.err {er:Int} {a:Nat} (h:er≠0):az (α:=α) (.error (er,a)):=fun _ _ q=>by injection q with q;injection q with q _;rw[←q];exact h
theorem az.ok (x:α × List Tk):az (.ok x):=fun _ _ q=>by cases q
theorem az.bind {R:Sy α} {f:α→List Tk→Sy β} (h:az R) (k:∀a j,R=.ok (a,j)→az (f a j)):az (aR R f):=fun er a q=>by
 cases hr:R with
 | error e=>rw[hr,dn] at q;injection q with q;rw[q] at hr;exact h er a hr
 | ok v=>rw[hr] at q;exact k v.1 v.2 hr er a q
theorem az.ite {c:Prop} [Decidable c] {a b:Sy α} (h:c→az a) (k:¬c→az b):az (if c then a else b):=by
 split
 ·exact h ‹_›
 ·exact k ‹_›
end
section
variable {E:Nat}
theorem sO (s:ByteArray) (l:List Tk):az (ee E s l):=az.ite (fun _=>az.ok _) fun _=>az.err (by decide)
theorem uC (l:List Tk):az (dO E l):=az.ite (fun _=>az.ite (fun _=>az.ok _) fun _=>az.err (by decide)) fun _=>az.err (by decide)
theorem Ge (l:List Tk):az (lW E l):=az.ite (fun _=>az.err (by decide)) fun _=>az.ite (fun _=>az.err (by decide)) fun _=>az.ok _
theorem Gh:∀(f:Nat) (o:List ByteArray) (l:List Tk),9≤f+o.length→o.length≤8→az (iN E f o l)
 | 0,o,l,h,h8=>by omega
 | f+1,o,l,h,h8=>by
  unfold iN;exact az.bind (uC l) fun t r _=>az.ite (fun _=>az.err (by decide)) fun q=>az.ite (fun _=>Gh f _ r.tail (by rw[bg,List.length_singleton];omega) (by rw[bg,List.length_singleton];omega)) fun _=>az.ok _
theorem Gg (l:List Tk):az (oH E l):=Gh 9 [] l (ax _) (cU _)
theorem F3 (l:List Tk):az (lE E l):=az.ite (fun _=>by
 cases h:jq (ak E 0 l).t with
 | error e=>
  refine az.err ?_;have h2:jq (ak E 0 l).t=.error (e.1,e.2):=h;exact rdP_nz h2
 | ok v=>exact az.ok _) fun _=>az.err (by decide)
theorem GC {α:Type} {R:Sy α} {x:Int × Nat} (h:az R) (hx:x.1≠0):(erO R x).1≠0:=by
 cases hr:R with
 | error e=>exact h e.1 e.2 (by rw[hr])
 | ok v=>exact hx
theorem tmS_nz {α:Type} (l:List Tk):az (tmS (α:=α) E l):=by
 have:(pH E l).1≠0:=by
  unfold pH;split
  ·exact GC (uC l) (by show (5:Int)≠0;decide)
  ·split
   ·exact GC (Ge l) (by show (5:Int)≠0;decide)
   ·split
    ·show (5:Int)≠0;decide
    ·split
     ·show (5:Int)≠0;decide
     ·show (2:Int)≠0;decide
 exact az.err this
def rH (p:Option Lv):Prop:=∀q,p=some q→∀l:List Tk,az (q.sg l)∧az (q.pi l)∧az (q.xp l)
variable {p:Option Lv}
theorem Ae (h:rH p) (l:List Tk):az (eV E p l):=by
 unfold eV;split
 ·exact az.err (by decide)
 ·exact(h _ rfl l).2.2
theorem piO_nz (h:rH p) (l:List Tk):az (rJ E p l):=by
 unfold rJ;split
 ·exact az.err (by decide)
 ·exact(h _ rfl l).2.1
theorem sgO_nz (h:rH p) (l:List Tk):az (rI E p l):=by
 unfold rI;split
 ·exact az.err (by decide)
 ·exact(h _ rfl l).1
theorem GR (h:rH p):∀(f:Nat) (o:List PT) (l:List Tk),9≤f+o.length→o.length≤8→az (iA E p f o l)
 | 0,o,l,hf,h8=>by omega
 | f+1,o,l,hf,h8=>by
  unfold iA;exact az.ite (fun _=>tmS_nz l) fun q=>az.bind (Ae h l) fun x r _=>az.ite (fun _=>GR h f _ r.tail (by rw[bg,List.length_singleton];omega) (by rw[bg,List.length_singleton];omega)) fun _=>az.bind (sO _ r) fun _ _ _=>az.ok _
theorem agS_nz (h:rH p) (l:List Tk):az (mE E p l):=az.ite (fun _=>az.ok _) fun _=>GR h 9 [] l (ax _) (cU _)
theorem npS_nz (h:rH p) (l:List Tk):az (kj E p l):=az.bind (uC l) fun _ r _=>az.ite (fun _=>az.bind (Ae h r.tail) fun _ q _=>az.bind (sO _ q) fun _ _ _=>az.ok _) fun _=>az.ite (fun _=>az.bind (agS_nz h r.tail) fun _ _ _=>az.ok _) fun _=>az.ok _
theorem F5 (h:rH p) (l:List Tk):az (fi E p l):=
 az.ite (fun _=>npS_nz h l) fun _=>az.ite (fun _=>az.bind (Ge l) fun _ _ _=>az.ok _) fun _=>az.ite (fun _=>az.ok _) fun _=>az.ite (fun _=>az.bind (piO_nz h l.tail) fun _ _ _=>az.ok _) fun _=>
  az.bind (sO _ l) fun _ r _=>az.bind (Ae h r) fun _ q _=>az.bind (sO _ q) fun _ _ _=>az.ok _
theorem FV (h:rH p) (l:List Tk):az (fC E p l):=az.ite (fun _=>az.bind (sgO_nz h l.tail) fun _ _ _=>az.ok _) fun _=>F5 h l
theorem FX {lv:Nat} {N:List Tk→Sy PT} (hN:∀l,az (N l)) (hL:∀l,Le l.length (N l)):∀(f:Nat) (x:PT) (l:List Tk),l.length < f→az (jU E lv N f x l)
 | 0,x,l,h=>by omega
 | f+1,x,l,h=>by
  unfold jU;refine az.ite (fun _=>az.ok _) fun hk=>az.bind (hN l.tail) fun y r hr=>FX hN hL f _ r ?_
  have h3:=hL l.tail y r hr;have hl:l≠[]:=by rintro rfl;exact hk rfl
  have h4:l.tail.length < l.length:=by rw[List.length_tail];have:=AE.2 hl;omega
  omega
theorem Ca {lv:Nat} {N:List Tk→Sy PT} (hN:∀l,az (N l)) (hL:∀l,Le l.length (N l)) (l:List Tk):az (jT E lv N l):=az.bind (hN l) fun x r _=>FX hN hL _ x r (Nat.lt_succ_self _)
theorem ML (h:rH p) (h2:pG p) (lv:Nat) (l:List Tk):az (kH E p lv l):=by
 have a4:∀l,az (fC E p l):=fun l=>FV h l
 have b4:∀l:List Tk,Le l.length (fC E p l):=fun l=>xe h2 l
 have a3:∀l,az (jT E 3 (fC E p) l):=Ca a4 b4;have b3:∀l:List Tk,Le l.length (jT E 3 (fC E p) l):=uA b4;have a2:∀l,az (jT E 2 (jT E 3 (fC E p)) l):=Ca a3 b3;have b2:∀l:List Tk,Le l.length (jT E 2 (jT E 3 (fC E p)) l):=uA b3;unfold kH;split
 ·exact Ca a2 b2 l
 ·split
  ·exact a2 l
  ·split
   ·exact a3 l
   ·exact a4 l
theorem Gn:∀d:Nat,rH (bV E d)
 | 0=>fun q h=>by cases h
 | d+1=>fun q h l=>by
  have:=Gn d;injection h with h
  subst h;exact⟨FV this l,F5 this l,ML this (Al d) 1 l⟩
theorem Gy (d:Nat) (l:List Tk):az (uM E d l):=Ae (Gn d) l
theorem dpS_nz (l:List Tk):az (uP E l):=az.ite (fun _=>az.ok _) fun _=>az.bind (Gg l) fun _ r _=>az.bind (sO _ r) fun _ _ _=>az.ok _
theorem dlS_nz (l:List Tk):az (sZ E l):=az.ite (fun _=>Gg l) fun _=>az.ok _
theorem dfS_nz (l:List Tk):az (dfS E l):=az.bind (uC l) fun _ r _=>az.bind (sO _ r) fun _ r _=>az.bind (dpS_nz r) fun _ r _=>az.bind (dlS_nz r) fun _ r _=>az.bind (uC r) fun _ _ _=>az.ok _
theorem evP_nz (l:List Tk):az (uN E l):=az.ite (fun _=>az.bind (F3 l.tail) fun _ _ _=>az.ok _) fun _=>az.ok _
theorem evG_nz (d:Nat) (x:PT) (a:Nat) (l:List Tk):az (sY E d x a l):=az.ite (fun _=>az.ite (fun _=>az.bind (Gy d l.tail) fun _ _ _=>az.ok _) fun _=>az.err (by decide)) fun _=>az.ok _
theorem ddS_nz (d:Nat) (S:SV) (l:List Tk):az (et E d S l):=
 az.ite (fun _=>az.ok _) fun _=>az.ite (fun _=>az.bind (dfS_nz l.tail) fun _ _ _=>az.ok _) fun _=>az.ite (fun _=>az.bind (uC l) fun _ r _=>az.bind (sO _ r) fun _ q _=>az.bind (F3 q) fun _ _ _=>az.ok _) fun _=>
  az.bind (Gy d l) fun _ r _=>az.bind (evP_nz r) fun _ q _=>az.bind (evG_nz d _ _ q) fun _ _ _=>az.ok _
theorem B7 (l:List Tk):az (jS E l):=az.bind (sO _ l) fun _ r _=>az.bind (uC r) fun _ q _=>az.bind (sO _ q) fun _ _ _=>az.ok _
theorem FS (y:Bool) (S:SV) (l:List Tk):az (mA E y S l):=az.ite (fun _=>az.bind (B7 l.tail) fun _ _ _=>az.ok _) fun _=>az.ite (fun _=>az.ok _) fun _=>az.err (by decide)
theorem wyS_nz (S:SV) (l:List Tk):az (ge E S l):=
 az.ite (fun _=>az.ite (fun _=>az.bind (B7 l.tail) fun _ _ _=>az.ok _) fun _=>az.ite (fun _=>az.bind (B7 l.tail.tail) fun _ r _=>FS true _ r) fun _=>FS false S l.tail) fun _=>az.ok _
end
theorem Cc (s:ByteArray) (l:List Tk):az (oG s l):=
 az.bind (az.ite (fun _=>uC l) fun _=>az.ok _) fun _ r _=>az.bind (ddS_nz 400 _ r) fun _ q _=>az.bind (wyS_nz _ q) fun _ _ _=>az.ite (fun _=>az.ok _) fun _=>az.err (by decide)
open Go.RowKit
section
variable {E:Nat} {p:Option Lv} {l:List Tk}
theorem MF (h:aM (ak E 0 l) (ah 45)=true):fC E p l=aR (rI E p l.tail) fun x r=>.ok (kl 7 [x],r):=by unfold fC;rw[af h]
theorem sgS_no (h:aM (ak E 0 l) (ah 45)=false):fC E p l=fi E p l:=by unfold fC;rw[ac (by rw[h];decide)]
end
theorem C7 {d:Nat} (hd:d≤400) (HP:nN 180 d (fun E=>fi E (bV E d))) (jN:∀d',d=d'+1→nN 168 d' (fun E=>fC E (bV E d'))):nN 168 d (fun E=>fC E (bV E d)):=by
 intro C l w hR hE;have HR:=ab hR;have HE:=ab hE;have hzl:=hR.lt;have bj:=ab (XRes.start hR);have gH:w.heap.size+1≤(w.alloc (.cells aB 24)).heap.size:=(aa bj).size;have sy:Hid (∀l w,Syr C w l (400 - d)→SyEnv C w→Calls prog 180 #[.pointer (some ⟨C.z,0,none⟩)] w fun e w'=>fV (fv w.heap.size) C (400 - d) w (fi C.E (bV C.E d) l) e w'):=ab (fun l w h k=>HP C l w h k)
 show Calls _ _ _ _ fun e w'=>fV (fv w.heap.size) C (400 - d) w (fC C.E (bV C.E d) l) e w'
 obtain⟨RR,bM⟩:∃RR,RR=fC C.E (bV C.E d) l:=⟨_,rfl⟩;rw[←bM];have HQ:=ab bM;clear hE HP bM;generalize ho:400 - d=o at *;have HO:=ab ho;clear hR ho
 cases h4:aM (ak C.E 0 l) (ah 45)
 ·have bQ:Hid (RR=fi C.E (bV C.E d) l):=ab ((aa HQ).trans (sgS_no h4))
  have HC:=ab (pr (ah 45) _ (aa bj).rdr h4);clear h4 HQ jN;unfold ah at HC;generalize fi C.E (bV C.E d)=PF at *;go_enter func168,ntmps168;go_wp2_with fail;refine(aa HC).mono ?_;rintro e w4 ⟨rfl,hb4⟩;have bZ:=ab ((aa bj).below hb4);have jP:=ab (aa sy l w4 (aa bZ).rdr ((aa HE).but (aa bZ).but));clear hb4 HC sy;go_wp2_with fail;refine(aa jP).mono ?_;intro e w5 hp
  cases hq:PF l with
  | error x=>
   obtain⟨er,i⟩:=x;obtain⟨hb5,rfl⟩:=dB hp hq;have ez:=ab ((aa bZ).but.trans hb5);have aS:Hid (RR=.error (er,i)):=ab (by rw[aa bQ,hq])
   clear hp hb5 hq;unfold aC;go_wp2_with fail;exact⟨rfl,fH (aa aS) (aa ez) rfl⟩
  | ok x=>
   obtain⟨x,r⟩:=x;obtain⟨hb5,⟨U,rfl,cE,cS⟩,hR5⟩:=dC hp hq;have dt:=ab ((aa bZ).next hzl hb5 hR5);have sB:Hid (U.can=x∧bd (w.heap.size+1) w5 U):=ab (⟨cE,cS.mono (aa bZ).size⟩);have aS:Hid (RR=.ok (x,r)):=ab (by rw[aa bQ,hq])
   clear hp hb5 hq cE cS hR5 jP;unfold pv;go_wp2_with (first
    | (refine aX rfl 24 _ _ rfl w.heap.size #[.int .i64 U.k,.string U.t,.int .i64 U.n,.string U.nm,.slice U.xa U.len U.cap] rfl rfl 24 aB (aa dt).res eT rfl (by simp[Value.oneCell']) ?_)
    | fail)
   (try simp only[Exit.inBlock,Exit.then])
   refine ck (dT rfl _ _ w.heap.size 24 #[.int .i64 U.k,.string U.t,.int .i64 U.n,.string U.nm,.slice U.xa U.len U.cap] (0,0) _ rfl (cm _ _ _ _ _ _ (aa dt).res) underlying24 rfl eT) rfl ?_;exact(aa dt).done (U:=U) (aa HR) (aa aS) (aa sB).1 (aa sB).2 _
 ·have bQ:Hid (RR=_):=ab ((aa HQ).trans (MF h4))
  have HC:=ab (pq (ah 45) _ (aa bj).rdr h4);clear h4 HQ sy;unfold ah at HC
  cases d with
  | zero=>
   have aS:Hid (RR=.error (4,(ak C.E 0 l.tail).a)):=ab (by rw[aa bQ];rfl)
   have j6:=ab (fun w h=>Bb (C:=C) (l:=l.tail) (o:=o) w h (aa HO).symm)
   clear bQ jN;generalize (ak C.E 0 l.tail).a=ae at *;go_enter func168,ntmps168;go_wp2_with fail;refine(aa HC).mono ?_;rintro e w4 ⟨rfl,hb4,hR4⟩;have dz:=ab ((aa bj).but.trans hb4);have jP:=ab (aa j6 _ hR4);clear hb4 hR4 HC j6;go_wp2_with fail;refine(aa jP).mono ?_;rintro e w5 ⟨rfl,hb5⟩;have ez:=ab ((aa dz).trans hb5);clear hb5;unfold aC;go_wp2_with fail;exact⟨rfl,fH (aa aS) (aa ez) rfl⟩
  | succ d=>
   have aS:Hid (RR=aR (fC C.E (bV C.E d) l.tail) fun x r=>.ok (kl 7 [x],r)):=ab (by rw[aa bQ];rfl)
   have hO:=aa HO;have j6:=ab (fun w h=>Ba (C:=C) (l:=l.tail) (o:=o) w h (by omega))
   rw[show o+1=400 - d by omega] at j6
   have HPC:Hid (∀l w,Syr C w l (400 - d)→SyEnv C w→Calls prog 168 #[.pointer (some ⟨C.z,0,none⟩)] w fun e w'=>fV (fv w.heap.size) C (400 - d) w (fC C.E (bV C.E d) l) e w'):=ab (fun l w h k=>jN d rfl C l w h k)
   have j3:=ab (fun w l h=>A3 (C:=C) (l:=l) (o:=o) w h (by omega))
   rw[show o+1=400 - d by omega] at j3
   clear bQ jN hd hO HO;generalize 400 - d=o1 at *;generalize bV C.E d=p at *;go_enter func168,ntmps168;go_wp2_with fail;refine(aa HC).mono ?_;rintro e w4 ⟨rfl,hb4,hR4⟩;have bZ:=ab ((aa bj).next hzl hb4 hR4);have jP:=ab (aa j6 _ hR4);clear hb4 hR4 HC j6;go_wp2_with fail;refine(aa jP).mono ?_;rintro e w5 ⟨rfl,hb5,hR5⟩;have dt:=ab ((aa bZ).next hzl hb5 hR5);have vK:=ab (aa HPC l.tail w5 (aa dt).rdr ((aa HE).but (aa dt).but));clear hb5 hR5 jP HPC;go_wp2_with fail;refine(aa vK).mono ?_;intro e w6 hp
   cases hq:fC C.E p l.tail with
   | error x=>
    obtain⟨er,i⟩:=x;obtain⟨hb6,rfl⟩:=dB hp hq;have gC:=ab ((aa dt).but.trans hb6);have bK:Hid (RR=.error (er,i)):=ab (by rw[aa aS,hq,dn])
    clear hp hb6 hq;unfold aC;go_wp2_with fail;exact⟨rfl,fH (aa bK) (aa gC) rfl⟩
   | ok x=>
    obtain⟨x,q⟩:=x;obtain⟨hb6,⟨U0,rfl,cE,cS⟩,hR6⟩:=dC hp hq;have qG:Below w6.heap.size w6 (w6.alloc (.cells (ai U0) 24)):=ba _;have l4:=((aa dt).next hzl hb6 hR6).below qG;have gK:=ab l4;have rb:Hid ((w6.alloc (.cells (ai U0) 24)).heap[w6.heap.size]? =some (.cells (ai U0) 24 (0,0))):=ab (aw rfl);have kS:Hid (U0.can=x∧bd (w.heap.size+1) (w6.alloc (.cells (ai U0) 24)) U0):=ab (⟨cE,(cS.mono (aa dt).size).below qG⟩);have bK:Hid (RR=.ok (kl 7 [x],q)):=ab (by rw[aa aS,hq,aT])
    have jO:=ab (aa j3 _ q l4.rdr);have hw6:w.heap.size+1≤w6.heap.size:=((aa dt).next hzl hb6 hR6).size;clear hp hb6 hq cE cS hR6 qG l4 vK j3;unfold pv;unfold ai at gK rb kS jO;go_wp2_with fail;refine(aa jO).mono ?_;rintro e w7 ⟨rfl,hb7,hR7⟩;have pU:=(aa gK).next hzl hb7 hR7;have vg:=hb7.row (show w6.heap.size≠C.z by omega) (aa rb)
    obtain⟨s0,s1,s2,s3,s4⟩:=dD vg;have hl7:bd (w.heap.size+1) w7 U0:=(aa kS).2.but hb7 (by omega)
    obtain⟨U,⟨qK,qL⟩,js,hli⟩:=xS (k:=7) (nm:=⟨#[]⟩) (KidsX.one (B:=w.heap.size+1) hl7 (ax _) pU.size) ⟨by decide,by decide⟩ (by decide)
    have vd:Below w7.heap.size w7 (w7.alloc (.cells (ai U0) 24)):=ba _;have bZ:=ab (pU.below vd);have ii:Hid (U.can=kl 7 [x]∧bd (w.heap.size+1) (w7.alloc (.cells (ai U0) 24)) U):=ab (⟨by rw[js,(aa kS).1];rfl,hli⟩)
    have kQ:=ab (And.intro qL qK);clear hb7 hR7 vg pU jO gK rb kS qK qL js hli hl7 vd;unfold ai at bZ ii;go_wp2_with (first
     | (refine aX rfl 24 _ _ rfl w.heap.size #[.int .i64 7,.string ⟨#[]⟩,.int .i64 0,.string ⟨#[]⟩,.slice (some ⟨w7.heap.size,0,none⟩) 1 1] rfl rfl 24 aB (aa bZ).res eT rfl (by simp[Value.oneCell']) ?_)
     | fail)
    (try simp only[Exit.inBlock,Exit.then])
    refine ck (dT rfl _ _ w.heap.size 24 #[.int .i64 7,.string ⟨#[]⟩,.int .i64 0,.string ⟨#[]⟩,.slice (some ⟨w7.heap.size,0,none⟩) 1 1] (0,0) _ rfl (cm _ _ _ _ _ _ (aa bZ).res) underlying24 rfl eT) rfl ?_;rw[←(aa kQ).2];exact(aa bZ).done (U:=U) (aa HR) (aa bK) (aa ii).1 (aa ii).2 _
open Go.RowKit
theorem JU (E:Nat) (p:Option Lv):kH E p 4=fC E p:=rfl
theorem JT {E:Nat} {p:Option Lv} {lv:Nat} (h1:1≤lv) (h2:lv≤3):kH E p lv=jT E lv (kH E p (lv+1)):=by
 have:lv=1∨lv=2∨lv=3:=by omega
 rcases this with rfl | rfl | rfl <;> rfl
def tkN (w:World) (z:Nat):Nat:=match w.cell? ⟨z,0,none⟩ with | some (.slice _ n _)=>n | _=>0
theorem Syr.tkN {C:SyC} {w:World} {l:List Tk} {o:Nat} (h:Syr C w l o):tkN w C.z=l.length:=by
 obtain⟨xa,cap,off,h1, -⟩:=h.blk;have:w.cell? ⟨C.z,0,none⟩=some (.slice xa l.length cap):=cr h1;unfold Go.Proofs.YtlmnjbipfacniaaGreatDoor.tkN;rw[this]
def ten (V U:PT):Array Value:= #[.int .i64 V.k,.string V.t,.int .i64 V.n,.string V.nm,.slice V.xa V.len V.cap,.int .i64 U.k,.string U.t,.int .i64 U.n,.string U.nm,.slice U.xa U.len U.cap]
theorem Lc {w:World} {B g:Nat} {V U:PT} (h:w.heap[g]? =some (.cells (ten V U) 24 (0,0))) (hB:B≤g):cc w B 24 5 eO (.slice (some ⟨g,0,none⟩) 2 2) [V,U]:=
 ⟨rfl,.inr ⟨g,2,ten V U,rfl,hB,h,ax _,by unfold maxLen;decide,rfl,rfl⟩⟩
theorem Ip {B gk:Nat} {k:Int} {g:Option Nat} {w:World} {V U:PT} (hk:0≤k∧k≤100) (hr:w.heap[gk]? =some (.cells (ten V U) 24 (0,0))) (hB:B≤gk) (hg:some gk≠g) (hV:gm B g w V) (hU:gm B g w U):gm B g w (gd k ⟨#[]⟩ gk 2 [V,U]):=by
 intro X hX;have au:gk < w.heap.size:=(bC.1 hr).1;have hr2:X.heap[gk]? =some (.cells (ten V U) 24 (0,0)):=(hX gk hB au hg).trans hr;exact ES (Lc hr2 (B:=B) hB) (fun x hx=>by
  simp only[dU,ek,fL] at hx;rcases hx with rfl | rfl
  ·exact hV X hX
  ·exact hU X hX) hk (by decide)
theorem kb_le (lv:Nat) (t:Tk):gF lv t=0∨(8≤gF lv t∧gF lv t≤13):=by
 unfold gF;split
 ·exact Cr _
 ·exact .inl rfl
theorem G8 {E lv:Nat} {l:List Tk} (h:gF lv (ak E 0 l)≠0):l≠[]:=by
 rintro rfl;exact h rfl
structure RwL (C:SyC) (o:Nat) (w:World) (gp:Nat) (wr:World) (l:List Tk) (V q:PT):Prop where
 res:XRes C o w wr l
 box:wr.heap[gp]? =some (.cells (ai V) 24 (0,0))
 can:V.can=q
 lies:gm (w.heap.size+1) (some gp) wr V
 low:w.heap.size < gp
theorem RwL.next {C:SyC} {o:Nat} {w:World} {gp:Nat} {wr w':World} {l l':List Tk} {V q:PT} (h:RwL C o w gp wr l V q) (hz:C.z < w.heap.size) (hb:But C.z wr w') (hR:Syr C w' l' o):RwL C o w gp w' l' V q:=
 ⟨h.res.next hz hb hR,hb.row (by have:=h.low;omega) h.box,h.can,h.lies.but hb (by omega),h.low⟩
theorem RwL.below {C:SyC} {o:Nat} {w:World} {gp:Nat} {wr w':World} {l:List Tk} {V q:PT} (h:RwL C o w gp wr l V q) (hb:Below wr.heap.size wr w'):RwL C o w gp w' l V q:=
 ⟨h.res.below hb,am h.box hb,h.can,h.lies.below hb,h.low⟩
theorem RwL.put {C:SyC} {o:Nat} {w:World} {l0:List Tk} {o0 gp gk:Nat} {W:World} {l:List Tk} {V q U y:PT} {k:Int} (h:RwL C o w gp W l V q) (h0:Syr C w l0 o0) (hk:0≤k∧k≤100) (hc:U.can=y) (hU:gm (w.heap.size+1) (some gp) W U)
  (hr:W.heap[gk]? =some (.cells (ten V U) 24 (0,0))) (hg:gp < gk):RwL C o w gp (W.setRow gp (ai (gd k ⟨#[]⟩ gk 2 [V,U]))) l (gd k ⟨#[]⟩ gk 2 [V,U]) (kl k [q,y]):=by
 have hlo:=h.low;refine⟨⟨j7 h.res.but (by omega) _,h.res.rdr.row h0 (by omega) _,(dH W gp _ _ (by omega)).trans h.res.res⟩,cm _ _ _ _ _ _ h.box, ?_, ?_,hlo⟩
 ·rw[wP,ib,ib,kK,h.can,hc];rfl
 ·exact Ip hk ((dH W gp gk _ (by omega)).trans hr) (by omega) (fun e=>by injection e with e;omega) (h.lies.setRow _) (hU.setRow _)
theorem DE {d:Nat} (HSG:nN 168 d (fun E=>fC E (bV E d))):yF d 4:=by
 intro C l w hR hE;have HR:=ab hR;have hzl:=hR.lt;have bj:=ab (XRes.start hR);have HC:Hid (Calls prog 168 #[.pointer (some ⟨C.z,0,none⟩)] (w.alloc (.cells aB 24)) fun e w'=>fV (fv (w.alloc (.cells aB 24)).heap.size) C (400 - d) (w.alloc (.cells aB 24)) (fC C.E (bV C.E d) l) e w'):=ab (HSG C l _ (aa bj).rdr (hE.but (aa bj).but))
 rw[JU];obtain⟨RR,bM⟩:∃RR,RR=fC C.E (bV C.E d) l:=⟨_,rfl⟩;rw[←bM] at HC ⊢;clear hE HSG bM;generalize ho:400 - d=o at *;clear hR ho;go_enter func151,ntmps151;go_wp2_with fail;refine(aa HC).mono ?_;intro e w5 hp
 cases hq:RR with
 | error x=>
  obtain⟨er,i⟩:=x;obtain⟨hb5,rfl⟩:=dB hp hq;have ez:=ab ((aa bj).but.trans hb5);have aS:=ab hq;clear hp hb5 hq;unfold aC;go_wp2_with fail;exact⟨rfl,fH (aa aS) (aa ez) rfl⟩
 | ok x=>
  obtain⟨x,r⟩:=x;obtain⟨hb5,⟨U,rfl,cE,cS⟩,hR5⟩:=dC hp hq;have dt:=ab ((aa bj).next hzl hb5 hR5);have sB:Hid (U.can=x∧bd (w.heap.size+1) w5 U):=ab (⟨cE,cS.mono (aa bj).size⟩);have aS:=ab hq;clear hp hb5 hq cE cS hR5 HC;unfold pv;go_wp2_with (first
   | (refine aX rfl 24 _ _ rfl w.heap.size #[.int .i64 U.k,.string U.t,.int .i64 U.n,.string U.nm,.slice U.xa U.len U.cap] rfl rfl 24 aB (aa dt).res eT rfl (by simp[Value.oneCell']) ?_)
   | fail)
  (try simp only[Exit.inBlock,Exit.then])
  refine ck (dT rfl _ _ w.heap.size 24 #[.int .i64 U.k,.string U.t,.int .i64 U.n,.string U.nm,.slice U.xa U.len U.cap] (0,0) _ rfl (cm _ _ _ _ _ _ (aa dt).res) underlying24 rfl eT) rfl ?_;exact(aa dt).done (U:=U) (aa HR) (aa aS) (aa sB).1 (aa sB).2 _
theorem wN {d lv:Nat} (h1:1≤lv) (h2:lv≤3) (HN:yF d (lv+1)):yF d lv:=by
 intro C l w hR hE;have HR:=ab hR;have HE:=ab hE;have hzl:=hR.lt;have bj:=ab (XRes.start hR);rw[JT h1 h2];have lP:Hid (∀l:List Tk,Le l.length (kH C.E (bV C.E d) (lv+1) l)):=ab (fun l=>BN (Al d) (lv+1) l)
 have HC:Hid (∀l w,Syr C w l (400 - d)→SyEnv C w→Calls prog 151 #[.pointer (some ⟨C.z,0,none⟩),.int .i64 ((lv:Int)+1)] w fun e w'=>fV (fv w.heap.size) C (400 - d) w (kH C.E (bV C.E d) (lv+1) l) e w'):=ab (fun l w h k=>HN C l w h k)
 obtain⟨RR,bM⟩:∃RR,RR=jT C.E lv (kH C.E (bV C.E d) (lv+1)) l:=⟨_,rfl⟩;rw[←bM];have HQ:Hid (RR=aR (kH C.E (bV C.E d) (lv+1) l) fun x r=>jU C.E lv (kH C.E (bV C.E d) (lv+1)) (r.length+1) x r):=ab (bM)
 clear hE HN bM;generalize ho:400 - d=o at *;generalize kH C.E (bV C.E d) (lv+1)=PF at *;clear hR ho;have q4:((lv:Int)==4)=false:=bn;have hlv:lv≤3:=h2;have sD:=ab (aa HC l _ (aa bj).rdr ((aa HE).but (aa bj).but));clear h1 h2;go_enter func151,ntmps151;go_wp2_with fail;refine(aa sD).mono ?_;intro e w1 hp
 cases hq:PF l with
 | error x=>
  obtain⟨er,i⟩:=x;obtain⟨hb5,rfl⟩:=dB hp hq;have ez:=ab ((aa bj).but.trans hb5);have aS:Hid (RR=.error (er,i)):=ab (by rw[aa HQ,hq,dn])
  clear hp hb5 hq;unfold aC;go_wp2_with fail;exact⟨rfl,fH (aa aS) (aa ez) rfl⟩
 | ok x=>
  obtain⟨x0,r0⟩:=x;obtain⟨hb1,⟨U,rfl,cE,cS⟩,hR1⟩:=dC hp hq;have mJ:=(aa bj).next hzl hb1 hR1;have bz:Below w1.heap.size w1 (w1.alloc (.cells (ai U) 24)):=ba _;have j5:Hid (RwL C o w w1.heap.size (w1.alloc (.cells (ai U) 24)) r0 U x0):=ab (⟨mJ.below bz,aw rfl,cE,cS.newrow (aa bj).size _,mJ.size⟩);have bQ:Hid (RR=jU C.E lv PF (r0.length+1) x0 r0):=ab (by rw[aa HQ,hq,aT])
  clear hp hb1 hq cE cS hR1 mJ bz sD HQ bj;unfold pv;go_wp2_with fail;rw[show (#[.int .i64 U.k,.string U.t,.int .i64 U.n,.string U.nm,.slice U.xa U.len U.cap]:Array Value)=ai U from rfl];generalize (w1.alloc (.cells (ai U) 24))=w2 at *;generalize w1.heap.size=gp at *;go_loopw [] (fun wr=>∃(l':List Tk) (V q:PT),Hid (RwL C o w gp wr l' V q)∧Hid (RR=jU C.E lv PF (l'.length+1) q l')) (fun wr=>tkN wr C.z)
  case atStart=>exact⟨r0,U,x0,aa j5,aa bQ⟩
  case round=>
   obtain⟨l',V,q,HI,jf⟩:=hrel;have HM:=ab (aa HI).res.rdr.tkN;have gY:=ab (JH lv wr (aa HI).res.rdr ((aa HE).but (aa HI).res.but));have hkl:=kb_le lv (ak C.E 0 l');have rd:=ab (fun (h:gF lv (ak C.E 0 l')≠0) w k=>un (C:=C) (l:=l') (o:=o) w k (G8 h))
   have fw:=ab (fun h=>D3 (E:=C.E) (lv:=lv) (N:=PF) (x:=q) (l:=l') h)
   have HSP:=ab (fun h=>D4 (E:=C.E) (lv:=lv) (N:=PF) (aa lP) (x:=q) (l:=l') h)
   have dR:=ab (fun (h:gF lv (ak C.E 0 l')≠0)=>show l'.tail.length < l'.length from by have:=AE.2 (G8 h);rw[List.length_tail];omega)
   clear j5 bQ;generalize gF lv (ak C.E 0 l')=kb at *
   by_cases dr:kb=0
   ·have aS:Hid (RR=.ok (q,l')):=ab (by rw[aa jf];exact aa fw dr)
    have e0:((kb:Int)==0)=true:=bt;clear dr hkl rd fw HSP dR;go_wp2_with fail;refine(aa gY).mono ?_;rintro e w3 ⟨rfl,hb3⟩;have j4:=ab ((aa HI).below hb3);obtain⟨s0,s1,s2,s3,s4⟩:=dD (aa j4).box;clear hb3;go_wp2_with (first
     | (refine aX rfl 24 _ _ rfl w.heap.size (ai V) rfl rfl 24 aB (aa j4).res.res eT rfl (ik V) ?_)
     | fail)
    (try simp only[Exit.inBlock,Exit.then])
    refine ck (dT rfl _ _ w.heap.size 24 (ai V) (0,0) _ rfl (cm _ _ _ _ _ _ (aa j4).res.res) underlying24 rfl eT) rfl ?_;exact(aa j4).res.done (U:=V) (aa HR) (aa aS) (aa j4).can (aa j4).lies.lies _
   ·have hk13:0≤(kb:Int)∧(kb:Int)≤100:=by omega
    have e0:((kb:Int)==0)=false:=bn;have aS:Hid (RR=aR (PF l'.tail) fun y r=>jU C.E lv PF (r.length+1) (kl kb [q,y]) r):=ab (by rw[aa jf];exact aa HSP dr)
    have au:=aa dR dr;have HPS2:=ab (aa rd dr);clear dr hkl rd fw HSP dR jf;go_wp2_with fail;refine(aa gY).mono ?_;rintro e w3 ⟨rfl,hb3⟩;have j4:=ab ((aa HI).below hb3);clear hb3;go_wp2_with fail;refine(aa HPS2 _ (aa j4).res.rdr).mono ?_;rintro e w4 ⟨rfl,hb4,hR4⟩;have HI4:=ab ((aa j4).next hzl hb4 hR4);clear hb4 hR4 HPS2 j4;go_wp2_with fail;obtain⟨s0,s1,s2,s3,s4⟩:=dD (aa HI4).box;obtain⟨S0,aO⟩:∃S0:World→Prop,S0=fun w'=>w'.cell? ⟨gp,0,none⟩=some (.int .i64 V.k)∧w'.cell? ⟨gp,1,none⟩=some (.string V.t)∧w'.cell? ⟨gp,2,none⟩=some (.int .i64 V.n)∧w'.cell? ⟨gp,3,none⟩=some (.string V.nm)∧w'.cell? ⟨gp,4,none⟩=some (.slice V.xa V.len V.cap):=⟨_,rfl⟩
    have ao:=ab aO;have hS:S0 w4.drew:=by rw[aO];exact⟨s0,s1,s2,s3,s4⟩
    have aU:Hid (∀W,W.heap[gp]? =some (.cells (ai V) 24 (0,0))→S0 W):=ab (fun W h=>by rw[aO];exact dD h)
    have AP:=ab ((aa HI4).below (aW _ _).drew);have HRC:=ab (aa HC l'.tail w4.drew (aa AP).res.rdr ((aa HE).but (aa AP).res.but));have eZ:IntKind.i64.wrap ((lv:Int)+1)=(lv:Int)+1:=(IntWalk.i64_left _).trans (IntWalk.wrap64_in _ (by omega))
    clear aO HC;refine gZ 8 S0 ?_;intro F;refine aK F 0 ao hS ?_
    (try go_frame)
    refine aK F 1 ao hS ?_
    (try go_frame)
    refine aK F 2 ao hS ?_
    (try go_frame)
    refine aK F 3 ao hS ?_
    (try go_frame)
    refine aK F 4 ao hS ?_
    (try go_frame)
    refine cg 5 (fun K2 ew=> ?_)
    go_simp;refine(aa HRC).mono ?_;intro e w5 hp
    cases hq:PF l'.tail with
    | error x=>
     obtain⟨er,i⟩:=x;obtain⟨hb5,rfl⟩:=dB hp hq;have ez:=ab ((aa AP).res.but.trans hb5);have bK:Hid (RR=.error (er,i)):=ab (by rw[aa aS,hq,dn])
     clear hp hb5 hq;unfold aC;exact⟨rfl,fH (aa bK) (aa ez) rfl⟩
    | ok x=>
     obtain⟨y,r⟩:=x;obtain⟨hb5,⟨U2,rfl,cE,cS⟩,hR5⟩:=dC hp hq;have hI5:=(aa AP).next hzl hb5 hR5;have hrl:=(aa lP) l'.tail y r hq;have bK:Hid (RR=jU C.E lv PF (r.length+1) (kl kb [q,y]) r):=ab (by rw[aa aS,hq,aT])
     have hgpl:gp < w4.heap.size:=(bC.1 (aa HI4).box).1;have hgp5:gp < w5.heap.size:=(bC.1 hI5.box).1;have hU5:gm (w.heap.size+1) (some gp) w5 U2:=cS.except (by have:=(aa HI4).res.size;exact this) (fun i hi=>by injection hi with hi;subst hi;exact hgpl)
     have HI5:=ab hI5;unfold pv;refine ew _ _ (aa aU _ hI5.box) ?_;clear hS;have hS:S0 w5:=aa aU _ hI5.box;refine cg 6 (fun K3 cO=> ?_)
     go_simp;have ie:Below w5.heap.size w5 (w5.alloc (.cells (ten V U2) 24)):=ba _;have hI6:=hI5.below ie;refine cO _ _ (aa aU _ hI6.box) ?_;clear hS;have hS:S0 (w5.alloc (.cells (ten V U2) 24)):=aa aU _ hI6.box;refine cg 7 (fun K5 dP=> ?_)
     go_simp;refine dP _ _ hS ?_;refine g5 (by kernel_rfl) rfl (by kernel_rfl) (fun K4 bH=> ?_)
     refine A8 rfl (wp_store_row 24 (.tmp 5) (.tmp 30) rfl gp (ai (gd (kb:Int) ⟨#[]⟩ w5.heap.size 2 [V,U2])) rfl rfl 24 (ai V) hI6.box eT rfl (ik _) ?_);refine bH _ _ ?_
     (try simp only[aH,aP,aG])
     (try go_frame)
     have ef:=ab (hI6.put (k:=(kb:Int)) (gk:=w5.heap.size) (aa HR) hk13 cE (hU5.below ie) (aw rfl) hgp5);clear dP K5 bH cO ew K4 K3 K2 F hS ao aU hb5 hR5 ie hI5 hI6 hp hq cE cS hU5;go_wp2_with fail;exact⟨⟨r,_,_,aa ef,aa bK⟩,by rw[aa HM];exact Nat.lt_of_le_of_lt (Nat.le_of_eq (aa ef).res.rdr.tkN) (by omega)⟩
theorem D2:∀d:Nat,d≤400→yF d 1∧nN 168 d (fun E=>fC E (bV E d))∧nN 180 d (fun E=>fi E (bV E d))∧nN 136 d (fun E=>eV E (bV E d))
 | 0,hd=>by
  have HX:=DF hd (fun d' h=>absurd h (by omega))
  have HP:=Dj hd HX (fun d' h=>absurd h (by omega))
  have HS:=C7 hd HP (fun d' h=>absurd h (by omega))
  exact⟨wN (by decide) (by decide) (wN (by decide) (by decide) (wN (by decide) (by decide) (DE HS))),HS,HP,HX⟩
 | d+1,hd=>by
  obtain⟨ih1,ih2,ih3, -⟩:=D2 d (by omega)
  have HX:=DF hd (fun d' h=>by obtain rfl:d=d':=(by omega);exact ih1)
  have HP:=Dj hd HX (fun d' h=>by obtain rfl:d=d':=(by omega);exact ih3)
  have HS:=C7 hd HP (fun d' h=>by obtain rfl:d=d':=(by omega);exact ih2)
  exact⟨wN (by decide) (by decide) (wN (by decide) (by decide) (wN (by decide) (by decide) (DE HS))),HS,HP,HX⟩
end Go.Proofs.YtlmnjbipfacniaaGreatDoor
