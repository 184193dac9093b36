/- The reader of lines: one argument too many; rows of expressi -/
import Derived.Test.YtlmnjbipfacniaaGreatDoorSyEMs
set_option maxRecDepth 100000
set_option maxHeartbeats 8000000
namespace Go.Proofs.YtlmnjbipfacniaaGreatDoor
open Go.Proofs.Tryz
open Go.RowKit
theorem E7 {α:Type} {R:Sy α} {x e:Int × Nat} (h:R=.error e):erO R x=e:=by subst h;rfl
theorem Ga {α:Type} {R:Sy α} {x:Int × Nat} {a:α × List Tk} (h:R=.ok a):erO R x=x:=by subst h;rfl
theorem Ks {C:SyC} {l:List Tk} {o:Nat} (w:World) (hR:Syr C w l o) (hE:SyEnv C w):Calls prog 197 #[.pointer (some ⟨C.z,0,none⟩)] w fun e w'=>e=aC (pV C.E l).1 (pV C.E l).2∧But C.z w w':=by
 have HA:=ab (rH w hR);have HR:=ab hR;have HE:=ab hE;have HS:=ab (fun w h=>rJ (C:=C) (l:=l) (o:=o) w h)
 have HT:=ab (fun w=>ue 5 (ak C.E 0 l).a w)
 have HN:=ab (fun w h=>vP (C:=C) (l:=l) (o:=o) w h)
 have HU:=ab (fun q w h k=>CP (C:=C) (l:=l) (o:=o) w h k q)
 obtain⟨RR,bD⟩:∃RR,RR=pV C.E l:=⟨_,rfl⟩;rw[←bD];unfold pV at bD;have HQ:=ab bD;have eV:=ab (fun s w=>uf (ak C.E 0 l) s w)
 clear hR hE bD;generalize dL C.E l=RN at *;generalize mB C.E l=RU at *;generalize ak C.E 0 l=t at *;have HTV:Hid (jt t=.agg #[.int .i64 (t.k:Int),.string t.t,.int .i64 (t.a:Int)]):=ab (rfl);unfold jt at HA eV;have ph:=fun (W:World)=>(aV W.heap.size W).alloc (aw _) (.cells #[.int .i64 (t.k:Int),.string t.t,.int .i64 (t.a:Int)] 102)
 go_enter func197,ntmps197;go_wp2_with fail;refine(aa HA).mono ?_;rintro e w2 ⟨rfl,hb2⟩;have aE:=ab (aq hb2 (ph w2));have eE:Hid ((w2.alloc (.cells #[.int .i64 (t.k:Int),.string t.t,.int .i64 (t.a:Int)] 102)).heap[w2.heap.size]? =some (.cells #[.int .i64 (t.k:Int),.string t.t,.int .i64 (t.a:Int)] 102 (0,0))):=ab (ax rfl);have tR:Hid (w2.heap.size≠C.z):=ab (by have:=(aa HR).lt;have:=hb2.size;omega)
 clear hb2 HA
 by_cases h1:t.k=1
 ·have q1:((t.k:Int)==1)=true:=bt
  have bO:Hid (RR=erO RN (5,t.a)):=ab (by rw[aa HQ,af h1])
  clear h1 HQ HS HU eV;go_wp2_with fail;refine(aa HN _ ((aa HR).below (aa aE))).mono ?_;intro e w3 hp
  cases hq:RN with
  | error x=>
   obtain⟨er,i⟩:=x;obtain⟨hb3,rfl⟩:=dr hp hq;have ao:=ab ((But.of_below (aa aE)).trans hb3);have aU:Hid (RR=(er,i)):=ab (by rw[aa bO,E7 hq])
   clear hp hb3 hq;unfold aC;go_wp2_with fail;exact⟨rfl,by rw[aa aU];rfl,aa ao⟩
  | ok x=>
   obtain⟨p,r⟩:=x;obtain⟨hb3,rfl, -⟩:=dt hp hq;have ao:=ab ((But.of_below (aa aE)).trans hb3);have aU:Hid (RR=(5,t.a)):=ab (by rw[aa bO,Ga hq])
   have dl:=hb3.row (aa tR) (aa eE);have d2:w3.cell? ⟨w2.heap.size,2,none⟩=some (.int .i64 (t.a:Int)):=cr dl;clear hp hb3 hq dl;go_wp2_with fail;refine(aa HT _).mono ?_;rintro e w4 ⟨rfl,rfl⟩;unfold aC;go_wp2_with fail;exact⟨rfl,by rw[aa aU];rfl,aa ao⟩
 ·have q1:((t.k:Int)==1)=false:=bn
  have bO:Hid (RR=_):=ab (by rw[aa HQ,ac h1])
  by_cases h2:t.k=2
  ·have q2:((t.k:Int)==2)=true:=bt
   have bN:Hid (RR=erO RU (5,t.a)):=ab (by rw[aa bO,af h2])
   have tT:=ab (aa HU h2);clear h1 h2 HQ bO HS HN eV HU;go_wp2_with fail;refine(aa tT _ ((aa HR).below (aa aE)) ((aa HE).below (aa aE))).mono ?_;intro e w3 hp
   cases hq:RU with
   | error x=>
    obtain⟨er,i⟩:=x;obtain⟨hb3,rfl⟩:=dr hp hq;have ao:=ab ((But.of_below (aa aE)).trans hb3);have aU:Hid (RR=(er,i)):=ab (by rw[aa bN,E7 hq])
    clear hp hb3 hq;unfold aC;go_wp2_with fail;exact⟨rfl,by rw[aa aU];rfl,aa ao⟩
   | ok x=>
    obtain⟨p,r⟩:=x;obtain⟨hb3,rfl, -⟩:=dt hp hq;have ao:=ab ((But.of_below (aa aE)).trans hb3);have aU:Hid (RR=(5,t.a)):=ab (by rw[aa bN,Ga hq])
    have dl:=hb3.row (aa tR) (aa eE);have d2:w3.cell? ⟨w2.heap.size,2,none⟩=some (.int .i64 (t.a:Int)):=cr dl;clear hp hb3 hq dl;go_wp2_with fail;refine(aa HT _).mono ?_;rintro e w4 ⟨rfl,rfl⟩;unfold aC;go_wp2_with fail;exact⟨rfl,by rw[aa aU];rfl,aa ao⟩
  ·have q2:((t.k:Int)==2)=false:=bn
   have bN:Hid (RR=_):=ab (by rw[aa bO,ac h2])
   by_cases h3:t.k=3
   ·have q3:((t.k:Int)==3)=true:=bt
    have aU:Hid (RR=(5,t.a)):=ab (by rw[aa bN,af h3])
    clear h1 h2 h3 HQ bO bN HS HN eV HU;go_wp2_with fail;refine(aa HT _).mono ?_;rintro e w4 ⟨rfl,rfl⟩;unfold aC;go_wp2_with fail;exact⟨rfl,by rw[aa aU];rfl,But.of_below (aa aE)⟩
   ·have q3:((t.k:Int)==3)=false:=bn
    have dQ:Hid (RR=_):=ab (by rw[aa bN,ac h3])
    clear h1 h2 h3 HQ bO bN HN HU
    cases vp:aL t (ah 45)
    ·cases h36:aL t (ah 36)
     ·cases ie:aL t (ah 40)
      ·have aU:Hid (RR=(2,t.a)):=ab (by rw[aa dQ,ac (by rw[vp,h36,ie];decide)])
       clear dQ;have jS:=ab (fun w=>aa eV ⟨#[45]⟩ w)
       rw[show aL t ⟨#[45]⟩=false from vp] at jS;go_wp2_with fail;refine(aa jS _).mono ?_;rintro e w3 ⟨rfl,hb3⟩;have ao:=ab (aq (aa aE) hb3);have bo:=ab (an (aa eE) hb3);have d00:w3.cell? ⟨w2.heap.size,0,none⟩=some (.int .i64 (t.k:Int)):=cr (aa bo);have d10:w3.cell? ⟨w2.heap.size,1,none⟩=some (.string t.t):=cr (aa bo);have d20:w3.cell? ⟨w2.heap.size,2,none⟩=some (.int .i64 (t.a:Int)):=cr (aa bo);clear hb3 jS;have mo:=ab (fun w=>aa eV ⟨#[36]⟩ w)
       rw[show aL t ⟨#[36]⟩=false from h36] at mo;go_wp2_with fail;refine(aa mo _).mono ?_;rintro e w4 ⟨rfl,hb4⟩;have dD:=ab (aq (aa ao) hb4);have bY:=ab (an (aa bo) hb4);have d01:w4.cell? ⟨w2.heap.size,0,none⟩=some (.int .i64 (t.k:Int)):=cr (aa bY);have d11:w4.cell? ⟨w2.heap.size,1,none⟩=some (.string t.t):=cr (aa bY);have d21:w4.cell? ⟨w2.heap.size,2,none⟩=some (.int .i64 (t.a:Int)):=cr (aa bY);clear hb4 mo;have mS:=ab (fun w=>aa eV ⟨#[40]⟩ w)
       rw[show aL t ⟨#[40]⟩=false from ie] at mS;go_wp2_with fail;refine(aa mS _).mono ?_;rintro e w5 ⟨rfl,hb5⟩;have dJ:=ab (aq (aa dD) hb5);have dC:=ab (an (aa bY) hb5);have d02:w5.cell? ⟨w2.heap.size,0,none⟩=some (.int .i64 (t.k:Int)):=cr (aa dC);have d12:w5.cell? ⟨w2.heap.size,1,none⟩=some (.string t.t):=cr (aa dC);have d22:w5.cell? ⟨w2.heap.size,2,none⟩=some (.int .i64 (t.a:Int)):=cr (aa dC);clear hb5 mS;go_wp2_with fail;refine(aa HS _ ((aa HR).below (aa dJ))).mono ?_;rintro e w9 ⟨rfl,hb9⟩;have gY:=ab (aq (aa dJ) hb9);clear hb9;unfold aC;go_wp2_with fail;exact⟨rfl,by rw[aa aU];rfl,But.of_below (aa gY)⟩
      ·have aU:Hid (RR=(5,t.a)):=ab (by rw[aa dQ,af (.inr (.inr ie))])
       clear dQ;have jS:=ab (fun w=>aa eV ⟨#[45]⟩ w)
       rw[show aL t ⟨#[45]⟩=false from vp] at jS;go_wp2_with fail;refine(aa jS _).mono ?_;rintro e w3 ⟨rfl,hb3⟩;have ao:=ab (aq (aa aE) hb3);have bo:=ab (an (aa eE) hb3);have d00:w3.cell? ⟨w2.heap.size,0,none⟩=some (.int .i64 (t.k:Int)):=cr (aa bo);have d10:w3.cell? ⟨w2.heap.size,1,none⟩=some (.string t.t):=cr (aa bo);have d20:w3.cell? ⟨w2.heap.size,2,none⟩=some (.int .i64 (t.a:Int)):=cr (aa bo);clear hb3 jS;have mo:=ab (fun w=>aa eV ⟨#[36]⟩ w)
       rw[show aL t ⟨#[36]⟩=false from h36] at mo;go_wp2_with fail;refine(aa mo _).mono ?_;rintro e w4 ⟨rfl,hb4⟩;have dD:=ab (aq (aa ao) hb4);have bY:=ab (an (aa bo) hb4);have d01:w4.cell? ⟨w2.heap.size,0,none⟩=some (.int .i64 (t.k:Int)):=cr (aa bY);have d11:w4.cell? ⟨w2.heap.size,1,none⟩=some (.string t.t):=cr (aa bY);have d21:w4.cell? ⟨w2.heap.size,2,none⟩=some (.int .i64 (t.a:Int)):=cr (aa bY);clear hb4 mo;have mS:=ab (fun w=>aa eV ⟨#[40]⟩ w)
       rw[show aL t ⟨#[40]⟩=true from ie] at mS;go_wp2_with fail;refine(aa mS _).mono ?_;rintro e w5 ⟨rfl,hb5⟩;have dJ:=ab (aq (aa dD) hb5);have dC:=ab (an (aa bY) hb5);have d02:w5.cell? ⟨w2.heap.size,0,none⟩=some (.int .i64 (t.k:Int)):=cr (aa dC);have d12:w5.cell? ⟨w2.heap.size,1,none⟩=some (.string t.t):=cr (aa dC);have d22:w5.cell? ⟨w2.heap.size,2,none⟩=some (.int .i64 (t.a:Int)):=cr (aa dC);clear hb5 mS;go_wp2_with fail;refine(aa HT _).mono ?_;rintro e w9 ⟨rfl,rfl⟩;unfold aC;go_wp2_with fail;exact⟨rfl,by rw[aa aU];rfl,But.of_below (aa dJ)⟩
     ·have aU:Hid (RR=(5,t.a)):=ab (by rw[aa dQ,af (.inr (.inl h36))])
      clear dQ;have jS:=ab (fun w=>aa eV ⟨#[45]⟩ w)
      rw[show aL t ⟨#[45]⟩=false from vp] at jS;go_wp2_with fail;refine(aa jS _).mono ?_;rintro e w3 ⟨rfl,hb3⟩;have ao:=ab (aq (aa aE) hb3);have bo:=ab (an (aa eE) hb3);have d00:w3.cell? ⟨w2.heap.size,0,none⟩=some (.int .i64 (t.k:Int)):=cr (aa bo);have d10:w3.cell? ⟨w2.heap.size,1,none⟩=some (.string t.t):=cr (aa bo);have d20:w3.cell? ⟨w2.heap.size,2,none⟩=some (.int .i64 (t.a:Int)):=cr (aa bo);clear hb3 jS;have mo:=ab (fun w=>aa eV ⟨#[36]⟩ w)
      rw[show aL t ⟨#[36]⟩=true from h36] at mo;go_wp2_with fail;refine(aa mo _).mono ?_;rintro e w4 ⟨rfl,hb4⟩;have dD:=ab (aq (aa ao) hb4);have bY:=ab (an (aa bo) hb4);have d01:w4.cell? ⟨w2.heap.size,0,none⟩=some (.int .i64 (t.k:Int)):=cr (aa bY);have d11:w4.cell? ⟨w2.heap.size,1,none⟩=some (.string t.t):=cr (aa bY);have d21:w4.cell? ⟨w2.heap.size,2,none⟩=some (.int .i64 (t.a:Int)):=cr (aa bY);clear hb4 mo;go_wp2_with fail;refine(aa HT _).mono ?_;rintro e w9 ⟨rfl,rfl⟩;unfold aC;go_wp2_with fail;exact⟨rfl,by rw[aa aU];rfl,But.of_below (aa dD)⟩
    ·have aU:Hid (RR=(5,t.a)):=ab (by rw[aa dQ,af (.inl vp)])
     clear dQ;have jS:=ab (fun w=>aa eV ⟨#[45]⟩ w)
     rw[show aL t ⟨#[45]⟩=true from vp] at jS;go_wp2_with fail;refine(aa jS _).mono ?_;rintro e w3 ⟨rfl,hb3⟩;have ao:=ab (aq (aa aE) hb3);have bo:=ab (an (aa eE) hb3);have d00:w3.cell? ⟨w2.heap.size,0,none⟩=some (.int .i64 (t.k:Int)):=cr (aa bo);have d10:w3.cell? ⟨w2.heap.size,1,none⟩=some (.string t.t):=cr (aa bo);have d20:w3.cell? ⟨w2.heap.size,2,none⟩=some (.int .i64 (t.a:Int)):=cr (aa bo);clear hb3 jS;go_wp2_with fail;refine(aa HT _).mono ?_;rintro e w9 ⟨rfl,rfl⟩;unfold aC;go_wp2_with fail;exact⟨rfl,by rw[aa aU];rfl,But.of_below (aa ao)⟩
open Go.RowKit
theorem we:(prog.info? 24).map (fun i=>(i.zero,i.size,i.bytes))=some (some (.agg aB),5,72):=by kernel_rfl
theorem vQ {w:World} {U:PT}:∀k u,(eH U)[k]? =some u→(w.alloc (.cells (ai U) 24)).cell? ⟨w.heap.size,k,none⟩=some u:=fun k u h=>by
 rw[eB _ _ _ _ _ _ (ax rfl),←sa];exact h
structure KidsX (B:Nat) (w:World) (v:Value) (L:List PT) (l:List PT):Prop where
 row:bP w B 24 5 eH v L
 can:L.map PT.can=l
 lies:∀x ∈ L,fX B v.ownBlock w x
theorem KidsX.but {B z:Nat} {w w':World} {v:Value} {L l:List PT} (h:KidsX B w v L l) (hb:But z w w') (hz:z < B):KidsX B w' v L l:=
 ⟨h.row.same fun k hk=>hb.block k (h.row.low hk).2 (by have:=(h.row.low hk).1;omega),h.can,fun x hx=>(h.lies x hx).but hb hz⟩
theorem KidsX.below {B:Nat} {w w':World} {v:Value} {L l:List PT} (h:KidsX B w v L l) (hb:Below w.heap.size w w'):KidsX B w' v L l:=⟨h.row.later hb,h.can,fun x hx=>(h.lies x hx).below hb⟩
theorem KidsX.nil {B:Nat} {w:World}:KidsX B w (.slice none 0 0) [] []:=⟨lX _ _ _ _,rfl,fun x hx=>by simp at hx⟩
theorem KidsX.snoc {B:Nat} {w w4 w6:World} {v v':Value} {L l:List PT} {U:PT} (h:KidsX B w4 v L l) (hw:B≤w.heap.size) (hv:∀k,v.ownBlock=some k→k < w.heap.size) (hL:bf w.heap.size w4 U)
  (aS:bP w6 B 24 5 eH v' (L++[U])) (hg:(w4.alloc (.cells (ai U) 24)).grownBy w6 v.ownBlock) (hn:v'.ownBlock=v.ownBlock∨v'.ownBlock=some (w4.alloc (.cells (ai U) 24)).heap.size):KidsX B w6 v' (L++[U]) (l++[U.can]):=by
 have hb5:Below w4.heap.size w4 (w4.alloc (.cells (ai U) 24)):=ba _;refine⟨aS,by rw[oU,h.can];rfl,fun x hx=> ?_⟩
 rcases uQ.1 hx with hx | hx
 ·exact((h.lies x hx).below hb5).grown hg hn
 ·rw[jv] at hx
  subst hx;exact(((hL.except hw fun i hi=>hv i hi)).below hb5).grown hg hn
theorem Ju {w:World} {B g cap i:Nat} {v:Value} {l:List PT} {x:PT} (h:bP w B 24 5 eH v l) (hv:v=.slice (some ⟨g,0,none⟩) l.length cap) (hx:l[i]? =some x):
  w.cell? ⟨g,i * 5,none⟩=some (.int .i64 x.k)∧w.cell? ⟨g,i * 5+1,none⟩=some (.string x.t)∧w.cell? ⟨g,i * 5+2,none⟩=some (.int .i64 x.n)∧w.cell? ⟨g,i * 5+3,none⟩=some (.string x.nm)∧w.cell? ⟨g,i * 5+4,none⟩=some (.slice x.xa x.len x.cap):=
 ⟨h.cell iX hv hx (k:=0) rfl,h.cell iX hv hx (k:=1) rfl,h.cell iX hv hx (k:=2) rfl,h.cell iX hv hx (k:=3) rfl,h.cell iX hv hx (k:=4) rfl⟩
theorem ED {w:World} {B g cap:Nat} {L:List PT} {nm:ByteArray} (h:bP w B 24 5 eH (.slice (some ⟨g,0,none⟩) L.length cap) L) (hL:∀x ∈ L,x.In w) {k:Int} (hk:0≤k∧k≤100) (hn:nm.size≤65536):(fS k nm g cap L).In w:=by
 have hf:=h.max;have eN:L.length≤cap:=by
  obtain⟨a,c,e, -,hc⟩:=h.len;injection e with _ _ e3
  omega
 refine⟨by constructor <;> omega,by unfold maxLen;decide,by decide,by unfold maxLen;omega,hf,eN,fun _=>rfl,fun i=> ?_⟩
 obtain⟨x0,x1,x2,x3,x4⟩:=Ju h rfl (i:=i.val) (x:=L[i]) (gT i.isLt);simp only[ni];exact⟨⟨x0,x1,x2,x3,x4⟩,hL _ (uL i.isLt)⟩
theorem xN {B:Nat} {w:World} {v:Value} {L l:List PT} {k:Int} {nm:ByteArray} (h:KidsX B w v L l) (hk:0≤k∧k≤100) (hn:nm.size≤65536):∃U:PT,(pv U=.agg #[.int .i64 k,.string ⟨#[]⟩,.int .i64 0,.string nm,v]∧ai U= #[.int .i64 k,.string ⟨#[]⟩,.int .i64 0,.string nm,v])∧U.can=aP k ByteArray.empty 0 nm l∧bf B w U:=by
 rcases h.row.2 with ⟨rfl,h0⟩ | ⟨g,cap,cur,rfl,hb,hg,hc,hm,hs,ht⟩
 ·obtain rfl:=kG h0
  have hl:l=[]:=by rw[←h.can];rfl
  subst hl;exact⟨aP k ⟨#[]⟩ 0 nm [],⟨rfl,rfl⟩,pL _ _ _ _,sT hk ⟨by decide,by decide⟩ (by decide) hn⟩
 ·refine⟨fS k nm g cap L,⟨rfl,rfl⟩,by rw[wS,h.can];rfl,fun X hX=> ?_⟩
  have lg:=h.row.low (k:=g) rfl;have hr:bP X B 24 5 eH (.slice (some ⟨g,0,none⟩) L.length cap) L:=h.row.same fun k hk=>by
   have:k=g:=by simpa [Value.ownBlock] using hk.symm
   subst this;exact hX k lg.1 lg.2
  exact ED hr (fun x hx=>(h.lies x hx).lies X hX) hk hn
def argsL (B:Nat) (l:List PT) (e:Ending) (w:World):Prop:=∃v L,e=.returned v∧KidsX B w v L l
section
variable {E f:Nat} {p:Option Lv} {o:List PT} {l r q:List Tk} {x:PT}
theorem LV (ho:o.length=8):iO E p (f+1) o l=.error (pV E l):=by rw[iO,af ho];rfl
theorem Ng {e:Int × Nat} (ho:o.length≠8) (h:eX E p l=.error e):iO E p (f+1) o l=.error e:=by rw[iO,ac ho,h];rfl
theorem LU (ho:o.length≠8) (h:eX E p l=.ok (x,r)) (hc:aL (ak E 0 r) (ah 44)=true):iO E p (f+1) o l=iO E p f (o++[x]) r.tail:=by rw[iO,ac ho,h,aQ,af hc]
theorem LW (ho:o.length≠8) (h:eX E p l=.ok (x,r)) (hc:aL (ak E 0 r) (ah 44)=false):iO E p (f+1) o l=aR (ef E (ah 41) r) fun _ q=>.ok (o++[x],q):=by rw[iO,ac ho,h,aQ,ac (by rw[hc];decide)]
end
theorem Jr {d:Nat} (HX:nX 136 d (fun E=>eX E (bV E d))) (C:SyC) (l:List Tk) (w:World) (hR:Syr C w l (400 - d)) (hE:SyEnv C w):
  Calls prog 191 #[.pointer (some ⟨C.z,0,none⟩)] w fun e w'=>fJ (argsL w.heap.size) C (400 - d) w (na C.E (bV C.E d) l) e w':=by
 have nL:=ab hR;have HE:=ab hE;have sB:Hid (∀l w,Syr C w l (400 - d)→SyEnv C w→Calls prog 136 #[.pointer (some ⟨C.z,0,none⟩)] w fun e w'=>fJ (eW w.heap.size) C (400 - d) w (eX C.E (bV C.E d) l) e w'):=ab (fun l w h k=>HX C l w h k)
 obtain⟨RR,bD⟩:∃RR,RR=na C.E (bV C.E d) l:=⟨_,rfl⟩;rw[←bD];obtain⟨B,hB⟩:∃B,B=w.heap.size:=⟨_,rfl⟩;rw[←hB];have aF:=ab hB;have hzB:C.z < B:=by rw[hB];exact hR.lt
 generalize bV C.E d=p at *;generalize 400 - d=od at *
 cases hs:aL (ak C.E 0 l) (ah 41)
 ·have sH:Hid (RR=iO C.E p 9 [] l):=ab (by rw[bD];unfold na;rw[hs,ac (by decide)])
  have rv:=ab (pK (ah 41) w hR hs);unfold ah at rv;clear hR hE bD hB hs HX;go_enter func191,ntmps191;go_wp2_with fail;refine(aa rv).mono ?_;rintro e w1 ⟨rfl,hb1⟩;have jS:Hid (Syr C w1 l od∧But C.z w w1):=ab (⟨(aa nL).below hb1,But.of_below hb1⟩);clear hb1 rv;go_wp2_with fail;go_loopw [3] (fun v wr=>∃(o L:List PT) (l':List Tk) (a:Option Addr) (cap:Nat),o.length≤8∧L.length=o.length∧v=.slice a o.length cap∧Hid (KidsX B wr (.slice a o.length cap) L o∧Syr C wr l' od∧But C.z w wr∧RR=iO C.E p (9 - o.length) o l')) (fun v _=>9 - lenV v)
  case atStart=>exact⟨[],[],l,none,0,by simp,rfl,rfl,KidsX.nil,(aa jS).1,(aa jS).2,aa sH⟩
  case round=>
   obtain⟨o,L,l',a,cap,ho,hLo,rfl,HI⟩:=hrel;obtain⟨f,hf⟩:∃f,9 - o.length=f+1:=⟨8 - o.length,by omega⟩
   have ko:Hid (RR=iO C.E p (f+1) o l'):=ab (by rw[←hf];exact(aa HI).2.2.2)
   have HF:=ab hf;have HLO:=ab hLo;have jT:=ab ((aa HE).but (aa HI).2.2.1);clear hf hLo jS sH
   by_cases h8:o.length=8
   ·have dd:Hid (RR=.error ((pV C.E l').1,(pV C.E l').2)):=ab (by rw[aa ko];exact LV h8)
    have q8:((o.length:Int)==8)=true:=bt;have HTM:=ab (Ks wr (aa HI).2.1 (aa jT));clear h8 ko;generalize (pV C.E l').1=e1 at *;generalize (pV C.E l').2=e2 at *;go_wp2_with fail;refine(aa HTM).mono ?_;rintro e w2 ⟨rfl,hb2⟩;have aE:=ab ((aa HI).2.2.1.trans hb2);clear hb2;unfold aC;go_wp2_with fail;exact⟨rfl,fu (aa dd) (aa aE) rfl⟩
   ·have q8:((o.length:Int)==8)=false:=bn
    have H8:=ab h8;have d6:=ab (aa sB l' wr (aa HI).2.1 (aa jT));clear h8;go_wp2_with fail;refine(aa d6).mono ?_;intro e w3 hp
    cases hq:eX C.E p l' with
    | error x=>
     obtain⟨er,i⟩:=x;obtain⟨hb3,rfl⟩:=dr hp hq;have ao:=ab ((aa HI).2.2.1.trans hb3);have dd:Hid (RR=.error (er,i)):=ab (by rw[aa ko];exact Ng (aa H8) hq)
     clear hp hb3 hq;unfold aC;go_wp2_with fail;exact⟨rfl,fu (aa dd) (aa ao) rfl⟩
    | ok x=>
     obtain⟨x,r⟩:=x;obtain⟨hb3,⟨U,rfl,cA,cL⟩,hR3⟩:=dt hp hq;have HQX:=ab hq;have cS:=ab ((aa HI).1.but hb3 hzB);have hwB:B≤wr.heap.size:=by rw[aa aF];exact(aa HI).2.2.1.size
     have sw:B≤w3.heap.size:=by have:=hb3.size;omega
     have bp:Below w3.heap.size w3 (w3.alloc (.cells (ai U) 24)):=ba _;have dT:=ab ((aa cS).row.later bp);have kO:Hid (B≤(w3.alloc (.cells (ai U) 24)).heap.size):=ab (by rw[dS];omega)
     have rE:=ab (vQ (w:=w3) (U:=U));have HAF:Hid (∀v6 w6,bP w6 B 24 5 eH v6 (L++[U])→(w3.alloc (.cells (ai U) 24)).grownBy w6 (Value.slice a o.length cap).ownBlock→(v6.ownBlock=(Value.slice a o.length cap).ownBlock∨v6.ownBlock=some (w3.alloc (.cells (ai U) 24)).heap.size)→KidsX B w6 v6 (L++[U]) (o++[x])∧Syr C w6 r od∧But C.z w w6):=ab (fun v6 w6 aS hg hn=>by
      have Aw:=CZ (aa dT) (aa kO) hg;refine⟨?_,(hR3.below bp).old (aa nL) (aa aF).symm Aw,Fk (((aa HI).2.2.1.trans hb3).trans (But.of_below bp)) (aa aF).symm hg.size Aw ⟨hg.os,hg.tape,hg.output⟩⟩;have:=(aa cS).snoc hwB (fun k hk=>((aa HI).1.row.low hk).2) cL aS hg hn
      rw[cA] at this;exact this)
     have hol:L.length≤1000000:=by rw[aa HLO];omega
     have HLR:Hid (L.length=o.length):=ab (aa HLO);clear hp hb3 hq cA cL hR3 bp d6 sw hwB;unfold pv;unfold ai at dT kO rE HAF;have gG:=ab (fun w h hs=>pJ (C:=C) (l:=r) (o:=od) (ah 44) w h hs)
     have qt:=ab (fun w h hs=>pK (C:=C) (l:=r) (o:=od) (ah 44) w h hs)
     have rz:=ab (fun w h=>sS (C:=C) (l:=r) (o:=od) (ah 41) w h)
     unfold ah at gG qt;go_wp2_with (first
      | (at_builtin;refine wL underlying22 we rfl (by decide) (by decide) iX nU rfl _ _ rfl (aa dT) (aa kO) U w3.heap.size 1 rfl rfl (aa rE) hol ?_;intro v6 w6 aS bI dP;have ec:=ab (aa HAF v6 w6 aS bI dP);have HVL:=ab aS.len;clear bI dP aS HAF rE)
      | fail)
     obtain⟨a6,cap6,dZ, -, -⟩:=aa HVL;have bU:(o++[x]).length=o.length+1:=by simp
     have Cu:(L++[U]).length=o.length+1:=by simp[aa HLO]
     rw[Cu] at dZ;subst dZ
     cases hc:aL (ak C.E 0 r) ⟨#[44]⟩
     ·have dd:Hid (RR=aR (ef C.E (ah 41) r) fun _ q=>.ok (o++[x],q)):=ab (by rw[aa ko];exact LW (aa H8) (aa HQX) hc)
      refine(aa qt w6 (aa ec).2.1 hc).mono ?_;rintro e w7 ⟨rfl,hb7⟩;have HS7:Hid (KidsX B w7 (.slice a6 (o.length+1) cap6) (L++[U]) (o++[x])∧Syr C w7 r od∧But C.z w w7):=ab (⟨(aa ec).1.below hb7,(aa ec).2.1.below hb7,(aa ec).2.2.trans (But.of_below hb7)⟩);have tW:=ab (aa rz w7 (aa HS7).2.1);clear hb7 hc qt gG bU Cu rz ko HQX;unfold ah at tW dd;go_wp2_with fail;refine(aa tW).mono ?_;intro e w8 hp
      cases hq:ef C.E ⟨#[41]⟩ r with
      | error y=>
       obtain⟨er,i⟩:=y;obtain⟨jh,rfl⟩:=dr hp hq;have oH:=ab ((aa HS7).2.2.trans jh);have eF:Hid (RR=.error (er,i)):=ab (by rw[aa dd,hq,di])
       clear hp jh hq;unfold aC;go_wp2_with fail;exact⟨rfl,fu (aa eF) (aa oH) rfl⟩
      | ok y=>
       obtain⟨y,q⟩:=y;obtain⟨jh,rfl,hR8⟩:=dt hp hq;have HZ:Hid (KidsX B w8 (.slice a6 (o.length+1) cap6) (L++[U]) (o++[x])∧Syr C w8 q od∧But C.z w w8):=ab (⟨(aa HS7).1.but jh hzB,hR8,(aa HS7).2.2.trans jh⟩);have eF:Hid (RR=.ok (o++[x],q)):=ab (by rw[aa dd,hq,aQ])
       clear hp jh hq hR8;go_wp2_with fail;go_ret;exact nS (aa eF) (aa HZ).2.2 ⟨_,_,rfl,(aa HZ).1⟩ (aa HZ).2.1
     ·have dd:Hid (RR=iO C.E p f (o++[x]) r.tail):=ab (by rw[aa ko];exact LU (aa H8) (aa HQX) hc)
      refine(aa gG w6 (aa ec).2.1 hc).mono ?_;rintro e w7 ⟨rfl,hb7,hR7⟩;have HZ:Hid (KidsX B w7 (.slice a6 (o.length+1) cap6) (L++[U]) (o++[x])∧Syr C w7 r.tail od∧But C.z w w7):=ab (⟨(aa ec).1.but hb7 hzB,hR7,(aa ec).2.2.trans hb7⟩);clear hb7 hR7 hc qt gG rz;go_wp2_with fail;have hF:=aa HF;have h8:=aa H8;exact⟨⟨o++[x],L++[U],r.tail,a6,cap6,by rw[bU];omega,by rw[bU,Cu],by rw[bU],by rw[bU];exact(aa HZ).1,(aa HZ).2.1,(aa HZ).2.2,by rw[aa dd,bU,show 9 - (o.length+1)=f by omega]⟩,by show 9 - (o.length+1) < 9 - o.length;omega⟩
 ·have sH:Hid (RR=.ok ([],l.tail)):=ab (by rw[bD];unfold na;rw[hs,af rfl])
  have rv:=ab (pJ (ah 41) w hR hs);unfold ah at rv;clear hR hE bD hB hs HX;go_enter func191,ntmps191;go_wp2_with fail;refine(aa rv).mono ?_;rintro e w1 ⟨rfl,hb1,hR1⟩;have HZ:=ab (And.intro hb1 hR1);clear hb1 hR1 rv;go_wp2_with fail;go_ret;exact nS (aa sH) (aa HZ).1 ⟨_,_,rfl,KidsX.nil⟩ (aa HZ).2
open Go.RowKit
theorem KidsX.step {B:Nat} {w w':World} {v:Value} {L l:List PT} (h:KidsX B w v L l) (hs:w.heap.size≤w'.heap.size) (hb:∀i,B≤i→i < w.heap.size→w'.heap[i]? =w.heap[i]?):KidsX B w' v L l:=
 ⟨h.row.same fun k hk=>hb k (h.row.low hk).1 (h.row.low hk).2,h.can,fun x hx=>(h.lies x hx).step hs fun i h1 h2 _=>hb i h1 h2⟩
theorem KidsX.cell {B g k:Nat} {w:World} {v u:Value} {L l:List PT} (h:KidsX B w v L l) (hg:g < B):KidsX B (w.setCell ⟨g,k,none⟩ u) v L l:=h.step (by rw[og];exact aw _) fun i h1 _=>dh w ⟨g,k,none⟩ i u (by show i≠g;omega)
theorem KG {w:World} {B g:Nat} {U:PT} (h:w.heap[g]? =some (.cells (ai U) 24 (0,0))) (hB:B≤g):bP w B 24 5 eH (.slice (some ⟨g,0,none⟩) 1 1) [U]:=
 ⟨rfl,.inr ⟨g,1,ai U,rfl,hB,h,aw _,by unfold maxLen;decide,rfl,rfl⟩⟩
theorem KidsX.one {B C:Nat} {w:World} {U:PT} (h:bf C w U) (hc:B≤C) (hw:B≤w.heap.size):KidsX B (w.alloc (.cells (ai U) 24)) (.slice (some ⟨w.heap.size,0,none⟩) 1 1) [U] [U.can]:=
 ⟨KG (ax rfl) hw,rfl,fun x hx=>by
  rw[jv] at hx;subst hx;exact h.newrow hc _⟩
theorem Syr.cell {C:SyC} {w v:World} {l l0:List Tk} {o o0 g k:Nat} {u:Value} (h:Syr C w l o) (h0:Syr C v l0 o0) (hg:v.heap.size≤g):Syr C (w.setCell ⟨g,k,none⟩ u) l o:=
 h.same (dh w ⟨g,k,none⟩ _ u (by have:=h0.lt;show C.z≠g;omega)) (dh w ⟨g,k,none⟩ _ u (by have:=h0.gl;show C.g≠g;omega)) (dh w ⟨g,k,none⟩ _ u (by have:=h0.map.lt;show C.bb≠g;omega))
section
variable {E:Nat} {p:Option Lv} {l r:List Tk} {t:ByteArray}
theorem MM {e:Int × Nat} (h:dL E l=.error e):kE E p l=.error e:=by unfold kE;rw[h];rfl
theorem Lb (h:dL E l=.ok (t,r)) (h1:aL (ak E 0 r) (ah 60)=true):kE E p l=aR (eX E p r.tail) fun x q=>aR (ef E (ah 62) q) fun _ m=>.ok (aP 4 ByteArray.empty 0 t [x],m):=by unfold kE;rw[h,aQ,af h1]
theorem Lc (h:dL E l=.ok (t,r)) (h1:aL (ak E 0 r) (ah 60)=false) (h2:aL (ak E 0 r) (ah 40)=true):kE E p l=aR (na E p r.tail) fun o q=>.ok (aP 6 ByteArray.empty 0 t o,q):=by unfold kE;rw[h,aQ,ac (by rw[h1];decide),af h2]
theorem La (h:dL E l=.ok (t,r)) (h1:aL (ak E 0 r) (ah 60)=false) (h2:aL (ak E 0 r) (ah 40)=false):kE E p l=.ok (aP 3 ByteArray.empty 0 t [],r):=by unfold kE;rw[h,aQ,ac (by rw[h1];decide),ac (by rw[h2];decide)]
end
structure XBox (C:SyC) (o:Nat) (w W:World) (b:Nat) (r:List Tk) (A:Array Value):Prop where
 but:But C.z w W
 rdr:Syr C W r o
 res:W.heap[w.heap.size]? =some (.cells aB 24 (0,0))
 box:W.heap[b]? =some (.cells A 24 (0,0))
 low:w.heap.size < b
theorem XBox.next {C:SyC} {o b:Nat} {w W W':World} {r r':List Tk} {A:Array Value} (h:XBox C o w W b r A) (hz:C.z < w.heap.size) (hb:But C.z W W') (hR:Syr C W' r' o):XBox C o w W' b r' A:=
 ⟨h.but.trans hb,hR,hb.row (by omega) h.res,hb.row (by have:=h.low;omega) h.box,h.low⟩
theorem XBox.below {C:SyC} {o b:Nat} {w W W':World} {r:List Tk} {A:Array Value} (h:XBox C o w W b r A) (hb:Below W.heap.size W W'):XBox C o w W' b r A:=
 ⟨h.but.trans (But.of_below hb),h.rdr.below hb,an h.res hb,an h.box hb,h.low⟩
theorem XBox.set {C:SyC} {o b k:Nat} {w W:World} {r l0:List Tk} {o0:Nat} {A:Array Value} {u:Value} (h:XBox C o w W b r A) (h0:Syr C w l0 o0):XBox C o w (W.setCell ⟨b,k,none⟩ u) b r (A.setIfInBounds k u):=
 ⟨zk h.but (by have:=h.low;omega) _ _,h.rdr.cell h0 (by have:=h.low;omega),(dh W ⟨b,k,none⟩ w.heap.size u (by have:=h.low;show w.heap.size≠b;omega)).trans h.res,fB W b k _ _ u h.box,h.low⟩
theorem Iu {d:Nat} (HX:nX 136 d (fun E=>eX E (bV E d))):nX 186 d (fun E=>kE E (bV E d)):=by
 intro C l w hR hE;have bd:Below w.heap.size w (w.alloc (.cells aB 24)):=ba _;have HR:=ab hR;have HE:=ab hE;have aF:=ab bd;have hzl:=hR.lt;have oE:=ab (vP _ (hR.below bd));have ep:=ab (fun t r h=>oP (t:=t) (r:=r) hR h)
 have sB:Hid (∀l w,Syr C w l (400 - d)→SyEnv C w→Calls prog 136 #[.pointer (some ⟨C.z,0,none⟩)] w fun e w'=>fJ (eW w.heap.size) C (400 - d) w (eX C.E (bV C.E d) l) e w'):=ab (fun l w h k=>HX C l w h k)
 have HAC:=ab (fun l w h k=>Jr HX C l w h k)
 show Calls _ _ _ _ fun e w'=>fJ (eW w.heap.size) C (400 - d) w (kE C.E (bV C.E d) l) e w'
 obtain⟨RR,bD⟩:∃RR,RR=kE C.E (bV C.E d) l:=⟨_,rfl⟩;rw[←bD];have HQ:=ab bD;clear hR hE bd HX bD;generalize bV C.E d=p at *;generalize 400 - d=o at *;go_enter func186,ntmps186;go_wp2_with fail;refine(aa oE).mono ?_;intro e w2 hp
 cases hq:dL C.E l with
 | error x=>
  obtain⟨er,i⟩:=x;obtain⟨hb2,rfl⟩:=dr hp hq;have aE:=ab ((But.of_below (aa aF)).trans hb2);have aU:Hid (RR=.error (er,i)):=ab (by rw[aa HQ,MM hq])
  clear hp hb2 hq;unfold aC;go_wp2_with fail;exact⟨rfl,fu (aa aU) (aa aE) rfl⟩
 | ok x=>
  obtain⟨t,r⟩:=x;obtain⟨hb2,rfl,cX⟩:=dt hp hq;have oX:=aa ep t r hq;have HQN:=ab hq;have cJ:=hb2.row (show w.heap.size≠C.z by omega) (B8 (w:=w))
  have hwl2:w.heap.size < w2.heap.size:=(bC.1 cJ).1;have bp:Below w2.heap.size w2 (w2.alloc (.cells #[.int .i64 3,.string ⟨#[]⟩,.int .i64 0,.string t,.slice none 0 0] 24)):=ba _;have bo:=ab (show XBox C o w (w2.alloc (.cells #[.int .i64 3,.string ⟨#[]⟩,.int .i64 0,.string t,.slice none 0 0] 24)) w2.heap.size r #[.int .i64 3,.string ⟨#[]⟩,.int .i64 0,.string t,.slice none 0 0] from
   ⟨((But.of_below (aa aF)).trans hb2).trans (But.of_below bp),cX.below bp,an cJ bp,ax rfl,hwl2⟩)
  have uT:(w2.alloc (.cells #[.int .i64 3,.string ⟨#[]⟩,.int .i64 0,.string t,.slice none 0 0] 24)).heap.size=w2.heap.size+1:=dS _ _;have AD:=ab uT;have pu:=ab (fun w h hs=>pJ (C:=C) (l:=r) (o:=o) (ah 60) w h hs)
  have rv:=ab (fun w h hs=>pK (C:=C) (l:=r) (o:=o) (ah 60) w h hs)
  have HU1:=ab (fun w h hs=>pJ (C:=C) (l:=r) (o:=o) (ah 40) w h hs)
  have HU0:=ab (fun w h hs=>pK (C:=C) (l:=r) (o:=o) (ah 40) w h hs)
  clear hp hb2 hq cX cJ bp ep oE uT;unfold ah at pu rv HU1 HU0;go_wp2_with fail
  cases h1:aL (ak C.E 0 r) ⟨#[60]⟩
  ·cases h2:aL (ak C.E 0 r) ⟨#[40]⟩
   ·have aU:Hid (RR=.ok (aP 3 ByteArray.empty 0 t [],r)):=ab (by rw[aa HQ];exact La (aa HQN) h1 h2)
    refine(aa rv _ (aa bo).rdr h1).mono ?_;rintro e w4 ⟨rfl,hb4⟩;have bY:=ab ((aa bo).below hb4);clear hb4 h1;go_wp2_with fail;refine(aa HU0 _ (aa bY).rdr h2).mono ?_;rintro e w5 ⟨rfl,hb5⟩;have dC:=ab ((aa bY).below hb5);have sM:Hid ((aP 3 ⟨#[]⟩ 0 t []).can=aP 3 ByteArray.empty 0 t []∧bf (w.heap.size+1) w5 (aP 3 ⟨#[]⟩ 0 t [])):=ab (⟨pL _ _ _ _,sT ⟨by decide,by decide⟩ ⟨by decide,by decide⟩ (by decide) (by omega)⟩)
    have kP:Hid (ai (aP 3 ⟨#[]⟩ 0 t [])= #[.int .i64 3,.string ⟨#[]⟩,.int .i64 0,.string t,.slice none 0 0]∧pv (aP 3 ⟨#[]⟩ 0 t [])=.agg #[.int .i64 3,.string ⟨#[]⟩,.int .i64 0,.string t,.slice none 0 0]):=ab (⟨rfl,rfl⟩);clear hb5 h2;generalize aP 3 ⟨#[]⟩ 0 t []=U at *;obtain⟨s0,s1,s2,s3,s4⟩:=du (show w5.heap[w2.heap.size]? =some (.cells #[.int .i64 3,.string ⟨#[]⟩,.int .i64 0,.string t,.slice none 0 0] 24 (0,0)) from (aa dC).box);go_wp2_with (first
     | (refine bh rfl 24 _ _ rfl w.heap.size #[.int .i64 3,.string ⟨#[]⟩,.int .i64 0,.string t,.slice none 0 0] rfl rfl 24 aB (aa dC).res eM rfl (by simp[Value.oneCell']) ?_)
     | fail)
    (try simp only[Exit.inBlock,Exit.then])
    refine bK (dM rfl _ _ w.heap.size 24 #[.int .i64 3,.string ⟨#[]⟩,.int .i64 0,.string t,.slice none 0 0] (0,0) _ rfl (bW _ _ _ _ _ _ (aa dC).res) underlying24 rfl eM) rfl ?_;exact nS (aa aU) (jU (aa dC).but (aw _) _) ⟨U,by rw[(aa kP).2],(aa sM).1,((aa sM).2.setRow (by omega) _).mono (by omega)⟩ ((aa dC).rdr.row (aa HR) (aw _) _)
   ·have aU:Hid (RR=aR (na C.E p r.tail) fun o q=>.ok (aP 6 ByteArray.empty 0 t o,q)):=ab (by rw[aa HQ];exact Lc (aa HQN) h1 h2)
    refine(aa rv _ (aa bo).rdr h1).mono ?_;rintro e w4 ⟨rfl,hb4⟩;have bY:=ab ((aa bo).below hb4);have HSZ4:Hid (w2.heap.size+1≤w4.heap.size):=ab (by rw[←aa AD];exact hb4.size)
    clear hb4 h1;go_wp2_with fail;refine(aa HU1 _ (aa bY).rdr h2).mono ?_;rintro e w5 ⟨rfl,hb5,hR5⟩;have gd:=(aa bY).next hzl hb5 hR5;obtain⟨v0,v1,v2,v3,v4⟩:=du gd.box;have vf0:=cN w5 w2.heap.size 0 _ _ gd.box;have gF:=ab (gd.set (k:=0) (u:=.int .i64 6) (aa HR));have yW:Hid (w2.heap.size+1≤w5.heap.size):=ab (by have:=hb5.size;have:=aa HSZ4;omega)
    clear hb5 hR5 gd h2;have mp:=ab (aa HAC r.tail _ (aa gF).rdr ((aa HE).but (aa gF).but));have hs6:(w5.setCell ⟨w2.heap.size,0,none⟩ (.int .i64 6)).heap.size=w5.heap.size:=og _ _ _;go_wp2_with fail;refine(aa mp).mono ?_;intro e w7 hp
    cases hq:na C.E p r.tail with
    | error x=>
     obtain⟨er,i⟩:=x;obtain⟨hb7,rfl⟩:=dr hp hq;have jk:=ab ((aa gF).but.trans hb7);have bN:Hid (RR=.error (er,i)):=ab (by rw[aa aU,hq,di])
     clear hp hb7 hq;unfold aC;go_wp2_with fail;exact⟨rfl,fu (aa bN) (aa jk) rfl⟩
    | ok x=>
     obtain⟨os,q⟩:=x;obtain⟨hb7,⟨kv,L,tJ,hK⟩,hR7⟩:=dt hp hq;rw[hs6] at hK;obtain⟨ka,kc,hkv, -, -⟩:=hK.row.len;generalize L.length=kn at *;subst hkv;subst tJ;have ql:=(aa gF).next hzl hb7 hR7;have vf4:=cN w7 w2.heap.size 4 _ _ ql.box;obtain⟨u0,u1,u2,u3,u4⟩:=du ql.box;have sC:=ab (ql.set (k:=4) (u:=.slice ka kn kc) (aa HR));obtain⟨U,⟨iR,rc⟩,cA,cL⟩:=xN (k:=6) (nm:=t) (hK.cell (g:=w2.heap.size) (k:=4) (u:=.slice ka kn kc) (by have:=aa yW;omega)) ⟨by decide,by decide⟩ (by omega)
     have bN:Hid (RR=.ok (aP 6 ByteArray.empty 0 t os,q)):=ab (by rw[aa aU,hq,aQ])
     have HL8:Hid (U.can=aP 6 ByteArray.empty 0 t os∧bf (w.heap.size+1) (w7.setCell ⟨w2.heap.size,4,none⟩ (.slice ka kn kc)) U):=ab (⟨cA,cL.mono (by have:=aa yW;omega)⟩)
     have kP:=ab (And.intro rc iR);clear hp hb7 hq hR7 hK ql cA cL iR rc v0 v1 v2 v3 v4 vf0 hs6 mp;go_wp2_with (first
      | (refine bh rfl 24 _ _ rfl w.heap.size #[.int .i64 6,.string ⟨#[]⟩,.int .i64 0,.string t,.slice ka kn kc] rfl rfl 24 aB (aa sC).res eM rfl (by simp[Value.oneCell']) ?_)
      | fail)
     (try simp only[Exit.inBlock,Exit.then])
     refine bK (dM rfl _ _ w.heap.size 24 #[.int .i64 6,.string ⟨#[]⟩,.int .i64 0,.string t,.slice ka kn kc] (0,0) _ rfl (bW _ _ _ _ _ _ (aa sC).res) underlying24 rfl eM) rfl ?_;exact nS (aa bN) (jU (aa sC).but (aw _) _) ⟨U,by rw[(aa kP).2],(aa HL8).1,((aa HL8).2.setRow (by omega) _).mono (by omega)⟩ ((aa sC).rdr.row (aa HR) (aw _) _)
  ·have aU:Hid (RR=aR (eX C.E p r.tail) fun x q=>aR (ef C.E (ah 62) q) fun _ m=>.ok (aP 4 ByteArray.empty 0 t [x],m)):=ab (by rw[aa HQ];exact Lb (aa HQN) h1)
   refine(aa pu _ (aa bo).rdr h1).mono ?_;rintro e w5 ⟨rfl,hb5,hR5⟩;have gd:=(aa bo).next hzl hb5 hR5;obtain⟨v0,v1,v2,v3,v4⟩:=du gd.box;have vf0:=cN w5 w2.heap.size 0 _ _ gd.box;have gF:=ab (gd.set (k:=0) (u:=.int .i64 4) (aa HR));have yW:Hid (w2.heap.size+1≤w5.heap.size):=ab (by have:=hb5.size;have:=aa AD;omega)
   clear hb5 hR5 gd h1;have mp:=ab (aa sB r.tail _ (aa gF).rdr ((aa HE).but (aa gF).but));have hs6:(w5.setCell ⟨w2.heap.size,0,none⟩ (.int .i64 4)).heap.size=w5.heap.size:=og _ _ _;go_wp2_with fail;refine(aa mp).mono ?_;intro e w7 hp
   cases hq:eX C.E p r.tail with
   | error x=>
    obtain⟨er,i⟩:=x;obtain⟨hb7,rfl⟩:=dr hp hq;have jk:=ab ((aa gF).but.trans hb7);have bN:Hid (RR=.error (er,i)):=ab (by rw[aa aU,hq,di])
    clear hp hb7 hq;unfold aC;go_wp2_with fail;exact⟨rfl,fu (aa bN) (aa jk) rfl⟩
   | ok x=>
    obtain⟨xx,q⟩:=x;obtain⟨hb7,⟨U0,rfl,GK,Ct⟩,hR7⟩:=dt hp hq;rw[hs6] at Ct;have hs7:w5.heap.size≤w7.heap.size:=by have:=hb7.size;rw[hs6] at this;exact this
    have uW:Below w7.heap.size w7 (w7.alloc (.cells (ai U0) 24)):=ba _;have hx8:=((aa gF).next hzl hb7 hR7).below uW;have vf4:=cN _ w2.heap.size 4 _ _ hx8.box;obtain⟨u0,u1,u2,u3,u4⟩:=du hx8.box;have sC:=ab (hx8.set (k:=4) (u:=.slice (some ⟨w7.heap.size,0,none⟩) 1 1) (aa HR));have HK8:=ab ((KidsX.one (B:=w2.heap.size+1) Ct (by have:=aa yW;omega) (by have:=aa yW;omega)).cell (g:=w2.heap.size) (k:=4) (u:=.slice (some ⟨w7.heap.size,0,none⟩) 1 1) (by omega))
    rw[GK] at HK8;have bN:Hid (RR=aR (ef C.E (ah 62) q) fun _ m=>.ok (aP 4 ByteArray.empty 0 t [xx],m)):=ab (by rw[aa aU,hq,aQ])
    have HN8:=ab (sS (ah 62) _ (aa sC).rdr);clear hp hb7 hq hR7 hx8 GK Ct v0 v1 v2 v3 v4 vf0 hs6 mp uW;unfold pv;unfold ai at sC HK8 HN8 u0 u1 u2 u3 u4 vf4;unfold ah at HN8 bN;go_wp2_with fail;refine(aa HN8).mono ?_;intro e w8 hp
    cases hq:ef C.E ⟨#[62]⟩ q with
    | error x=>
     obtain⟨er,i⟩:=x;obtain⟨hb9,rfl⟩:=dr hp hq;have gY:=ab ((aa sC).but.trans hb9);have dQ:Hid (RR=.error (er,i)):=ab (by rw[aa bN,hq,di])
     clear hp hb9 hq;unfold aC;go_wp2_with fail;exact⟨rfl,fu (aa dQ) (aa gY) rfl⟩
    | ok x=>
     obtain⟨xu,m⟩:=x;obtain⟨hb9,rfl,hR9⟩:=dt hp hq;have ot:=(aa sC).next hzl hb9 hR9;obtain⟨U,⟨iR,rc⟩,cA,cL⟩:=xN (k:=4) (nm:=t) ((aa HK8).but hb9 (by omega)) ⟨by decide,by decide⟩ (by omega)
     have HX9:=ab ot;have dQ:Hid (RR=.ok (aP 4 ByteArray.empty 0 t [xx],m)):=ab (by rw[aa bN,hq,aQ])
     have HL8:Hid (U.can=aP 4 ByteArray.empty 0 t [xx]∧bf (w.heap.size+1) w8 U):=ab (⟨cA,cL.mono (by omega)⟩)
     have kP:=ab (And.intro rc iR);clear hp hb9 hq hR9 ot cA cL iR rc sC HK8 HN8 u0 u1 u2 u3 u4 vf4;obtain⟨s0,s1,s2,s3,s4⟩:=du (show w8.heap[w2.heap.size]? =some (.cells #[.int .i64 4,.string ⟨#[]⟩,.int .i64 0,.string t,.slice (some ⟨w7.heap.size,0,none⟩) 1 1] 24 (0,0)) from (aa HX9).box);go_wp2_with (first
      | (refine bh rfl 24 _ _ rfl w.heap.size #[.int .i64 4,.string ⟨#[]⟩,.int .i64 0,.string t,.slice (some ⟨w7.heap.size,0,none⟩) 1 1] rfl rfl 24 aB (aa HX9).res eM rfl (by simp[Value.oneCell']) ?_)
      | fail)
     (try simp only[Exit.inBlock,Exit.then])
     refine bK (dM rfl _ _ w.heap.size 24 #[.int .i64 4,.string ⟨#[]⟩,.int .i64 0,.string t,.slice (some ⟨w7.heap.size,0,none⟩) 1 1] (0,0) _ rfl (bW _ _ _ _ _ _ (aa HX9).res) underlying24 rfl eM) rfl ?_;exact nS (aa dQ) (jU (aa HX9).but (aw _) _) ⟨U,by rw[(aa kP).2],(aa HL8).1,((aa HL8).2.setRow (by omega) _).mono (by omega)⟩ ((aa HX9).rdr.row (aa HR) (aw _) _)
open Go.RowKit
theorem AU {B:Nat} {w:World} {k n:Int} {t nm:ByteArray} (hk:0≤k∧k≤100) (hn:0≤n∧n≤9223372036854775807) (ht:t.size≤65536) (hm:nm.size≤65536):bf B w (aP k t n nm []):=fun X _=>
 ⟨by constructor <;> omega,by unfold maxLen;omega,by constructor <;> omega,by unfold maxLen;omega,by unfold maxLen;decide,aw _,fun h=>absurd h (wu _),fun i=>i.elim0⟩
theorem nuS_sm {E:Nat} {l r:List Tk} {n:Int} (h:mB E l=.ok (n,r)):0≤n∧n≤9223372036854775807:=by
 unfold mB at h;split at h
 ·cases h
 ·split at h
  ·cases h
  ·injection h with h;injection h with h _;omega
structure XRes (C:SyC) (o:Nat) (w W:World) (r:List Tk):Prop where
 but:But C.z w W
 rdr:Syr C W r o
 res:W.heap[w.heap.size]? =some (.cells aB 24 (0,0))
theorem XRes.next {C:SyC} {o o':Nat} {w W W':World} {r r':List Tk} (h:XRes C o w W r) (hz:C.z < w.heap.size) (hb:But C.z W W') (hR:Syr C W' r' o'):XRes C o' w W' r':=⟨h.but.trans hb,hR,hb.row (by omega) h.res⟩
theorem XRes.below {C:SyC} {o:Nat} {w W W':World} {r:List Tk} (h:XRes C o w W r) (hb:Below W.heap.size W W'):XRes C o w W' r:=⟨h.but.trans (But.of_below hb),h.rdr.below hb,an h.res hb⟩
theorem XRes.size {C:SyC} {o:Nat} {w W:World} {r:List Tk} (h:XRes C o w W r):w.heap.size+1≤W.heap.size:=(bC.1 h.res).1
theorem XRes.start {C:SyC} {o:Nat} {w:World} {r:List Tk} (h:Syr C w r o):XRes C o w (w.alloc (.cells aB 24)) r:=⟨(But.refl _ _).alloc _,h.below (ba _),B8⟩
theorem XRes.done {C:SyC} {o o0:Nat} {w W:World} {r r0:List Tk} {RR:Sy PT} {U p:PT} (h:XRes C o w W r) (h0:Syr C w r0 o0) (hq:RR=.ok (p,r)) (hc:U.can=p) (hl:bf (w.heap.size+1) W U) (A:Array Value):fJ (eW w.heap.size) C o w RR (.returned (pv U)) (W.setRow w.heap.size A):=
 nS hq (jU h.but (aw _) _) ⟨U,rfl,hc,(hl.setRow (by omega) _).mono (by omega)⟩ (h.rdr.row h0 (aw _) _)
section
variable {E:Nat} {p:Option Lv} {l r:List Tk}
theorem KS (h:(ak E 0 l).k=1):eY E p l=kE E p l:=by unfold eY;rw[af h]
theorem Mt (h1:(ak E 0 l).k≠1) (h:(ak E 0 l).k=2):eY E p l=aR (mB E l) fun n r=>.ok (aP 2 ByteArray.empty n ByteArray.empty [],r):=by unfold eY;rw[ac h1,af h]
theorem KT (h1:(ak E 0 l).k≠1) (h2:(ak E 0 l).k≠2) (h:(ak E 0 l).k=3):eY E p l=.ok (aP 1 (ak E 0 l).t 0 ByteArray.empty [],l.tail):=by unfold eY;rw[ac h1,ac h2,af h]
theorem Mu (h1:(ak E 0 l).k≠1) (h2:(ak E 0 l).k≠2) (h3:(ak E 0 l).k≠3) (h:aL (ak E 0 l) (ah 36)=true):eY E p l=aR (uD E p l.tail) fun x r=>.ok (k8 5 [x],r):=by unfold eY;rw[ac h1,ac h2,ac h3,af h]
theorem Ms (h1:(ak E 0 l).k≠1) (h2:(ak E 0 l).k≠2) (h3:(ak E 0 l).k≠3) (h:aL (ak E 0 l) (ah 36)=false):eY E p l=aR (ef E (ah 40) l) fun _ r=>aR (eX E p r) fun x q=>aR (ef E (ah 41) q) fun _ m=>.ok (x,m):=by unfold eY;rw[ac h1,ac h2,ac h3,ac (by rw[h];decide)]
end
theorem CX {d:Nat} (hd:d≤400) (HX:nX 136 d (fun E=>eX E (bV E d))) (jE:∀d',d=d'+1→nX 180 d' (fun E=>eY E (bV E d'))):nX 180 d (fun E=>eY E (bV E d)):=by
 intro C l w hR hE;have HR:=ab hR;have HE:=ab hE;have hzl:=hR.lt;have AB:=ab (XRes.start hR);have gG:=ab (rH _ (aa AB).rdr);have jf:=xq hR 0;have sJ:Hid (∀l w,Syr C w l (400 - d)→SyEnv C w→Calls prog 186 #[.pointer (some ⟨C.z,0,none⟩)] w fun e w'=>fJ (eW w.heap.size) C (400 - d) w (kE C.E (bV C.E d) l) e w'):=ab (fun l w h k=>Iu HX C l w h k)
 have sB:Hid (∀l w,Syr C w l (400 - d)→SyEnv C w→Calls prog 136 #[.pointer (some ⟨C.z,0,none⟩)] w fun e w'=>fJ (eW w.heap.size) C (400 - d) w (eX C.E (bV C.E d) l) e w'):=ab (fun l w h k=>HX C l w h k)
 show Calls _ _ _ _ fun e w'=>fJ (eW w.heap.size) C (400 - d) w (eY C.E (bV C.E d) l) e w'
 obtain⟨RR,bD⟩:∃RR,RR=eY C.E (bV C.E d) l:=⟨_,rfl⟩;rw[←bD];have HQ:=ab bD;obtain⟨t,ht⟩:∃t,t=ak C.E 0 l:=⟨_,rfl⟩;rw[←ht] at gG jf;have nK:=ab ht;have ay:=jf.2.1;clear hE HX bD ht jf;generalize ho:400 - d=o at *;have HO:=ab ho;clear hR ho;unfold jt at gG;have ph:=fun (W:World)=>(aV W.heap.size W).alloc (aw _) (.cells #[.int .i64 (t.k:Int),.string t.t,.int .i64 (t.a:Int)] 102)
 go_enter func180,ntmps180;go_wp2_with fail;refine(aa gG).mono ?_;rintro e w2 ⟨rfl,hb2⟩;have bo:=ab (((aa AB).below hb2).below (ph w2));have bA:Hid ((w2.alloc (.cells #[.int .i64 (t.k:Int),.string t.t,.int .i64 (t.a:Int)] 102)).heap[w2.heap.size]? =some (.cells #[.int .i64 (t.k:Int),.string t.t,.int .i64 (t.a:Int)] 102 (0,0))):=ab (ax rfl);have fm:w.heap.size+1≤w2.heap.size:=((aa AB).below hb2).size;have AD:Hid ((w2.alloc (.cells #[.int .i64 (t.k:Int),.string t.t,.int .i64 (t.a:Int)] 102)).heap.size=w2.heap.size+1):=ab (dS _ _);clear hb2 gG AB
 by_cases h1:t.k=1
 ·have q1:((t.k:Int)==1)=true:=bt
  have bO:Hid (RR=kE C.E (bV C.E d) l):=ab (by rw[aa HQ];exact KS (by rw[←aa nK];exact h1))
  have HC:=ab (aa sJ l _ (aa bo).rdr ((aa HE).but (aa bo).but));clear h1 HQ sJ sB jE;generalize kE C.E (bV C.E d) l=R1 at *;go_wp2_with fail;refine(aa HC).mono ?_;intro e w4 hp
  cases hq:R1 with
  | error x=>
   obtain⟨er,i⟩:=x;obtain⟨hb4,rfl⟩:=dr hp hq;have dD:=ab ((aa bo).but.trans hb4);have aU:Hid (RR=.error (er,i)):=ab (by rw[aa bO,hq])
   clear hp hb4 hq;unfold aC;go_wp2_with fail;exact⟨rfl,fu (aa aU) (aa dD) rfl⟩
  | ok x=>
   obtain⟨x,r⟩:=x;obtain⟨hb4,⟨U,rfl,cA,cL⟩,hR4⟩:=dt hp hq;have bY:=ab ((aa bo).next hzl hb4 hR4);have jF:Hid (U.can=x∧bf (w.heap.size+1) w4 U):=ab (⟨cA,cL.mono (by rw[aa AD];omega)⟩)
   have aU:Hid (RR=.ok (x,r)):=ab (by rw[aa bO,hq])
   clear hp hb4 hq cA cL hR4 HC;unfold pv;go_wp2_with (first
    | (refine bh rfl 24 _ _ rfl w.heap.size #[.int .i64 U.k,.string U.t,.int .i64 U.n,.string U.nm,.slice U.xa U.len U.cap] rfl rfl 24 aB (aa bY).res eM rfl (by simp[Value.oneCell']) ?_)
    | fail)
   (try simp only[Exit.inBlock,Exit.then])
   refine bK (dM rfl _ _ w.heap.size 24 #[.int .i64 U.k,.string U.t,.int .i64 U.n,.string U.nm,.slice U.xa U.len U.cap] (0,0) _ rfl (bW _ _ _ _ _ _ (aa bY).res) underlying24 rfl eM) rfl ?_;exact(aa bY).done (U:=U) (aa HR) (aa aU) (aa jF).1 (aa jF).2 _
 ·have q1:((t.k:Int)==1)=false:=bn
  by_cases h2:t.k=2
  ·have q2:((t.k:Int)==2)=true:=bt
   have bO:Hid (RR=aR (mB C.E l) fun n r=>.ok (aP 2 ByteArray.empty n ByteArray.empty [],r)):=ab (by rw[aa HQ];exact Mt (by rw[←aa nK];exact h1) (by rw[←aa nK];exact h2))
   have HC:=ab (CP _ (aa bo).rdr ((aa HE).but (aa bo).but) (by rw[←aa nK];exact h2))
   have vG:=ab (fun n r h=>nuS_sm (E:=C.E) (l:=l) (r:=r) (n:=n) h)
   clear h1 h2 HQ sJ sB jE;generalize mB C.E l=R1 at *;go_wp2_with fail;refine(aa HC).mono ?_;intro e w4 hp
   cases hq:R1 with
   | error x=>
    obtain⟨er,i⟩:=x;obtain⟨hb4,rfl⟩:=dr hp hq;have dD:=ab ((aa bo).but.trans hb4);have aU:Hid (RR=.error (er,i)):=ab (by rw[aa bO,hq,di])
    clear hp hb4 hq;unfold aC;go_wp2_with fail;exact⟨rfl,fu (aa aU) (aa dD) rfl⟩
   | ok x=>
    obtain⟨n,r⟩:=x;obtain⟨hb4,rfl,hR4⟩:=dt hp hq;have hn:=aa vG n r hq;have bY:=ab ((aa bo).next hzl hb4 hR4);have jF:Hid ((aP 2 ⟨#[]⟩ n ⟨#[]⟩ []).can=aP 2 ByteArray.empty n ByteArray.empty []∧bf (w.heap.size+1) w4 (aP 2 ⟨#[]⟩ n ⟨#[]⟩ [])):=ab (⟨pL _ _ _ _,AU ⟨by decide,by decide⟩ hn (by decide) (by decide)⟩)
    have aU:Hid (RR=.ok (aP 2 ByteArray.empty n ByteArray.empty [],r)):=ab (by rw[aa bO,hq,aQ])
    clear hp hb4 hq hR4 HC hn vG;go_wp2_with (first
     | (refine bh rfl 24 _ _ rfl w.heap.size #[.int .i64 2,.string ⟨#[]⟩,.int .i64 n,.string ⟨#[]⟩,.slice none 0 0] rfl rfl 24 aB (aa bY).res eM rfl (by simp[Value.oneCell']) ?_)
     | fail)
    (try simp only[Exit.inBlock,Exit.then])
    refine bK (dM rfl _ _ w.heap.size 24 #[.int .i64 2,.string ⟨#[]⟩,.int .i64 n,.string ⟨#[]⟩,.slice none 0 0] (0,0) _ rfl (bW _ _ _ _ _ _ (aa bY).res) underlying24 rfl eM) rfl ?_;exact(aa bY).done (U:=aP 2 ⟨#[]⟩ n ⟨#[]⟩ []) (aa HR) (aa aU) (aa jF).1 (aa jF).2 _
  ·have q2:((t.k:Int)==2)=false:=bn
   by_cases h3:t.k=3
   ·have q3:((t.k:Int)==3)=true:=bt
    have aU:Hid (RR=.ok (aP 1 t.t 0 ByteArray.empty [],l.tail)):=ab (by rw[aa HQ,aa nK];exact KT (by rw[←aa nK];exact h1) (by rw[←aa nK];exact h2) (by rw[←aa nK];exact h3))
    have HC:=ab (ug _ (aa bo).rdr (yt (E:=C.E) (by rw[←aa nK,h3];decide)))
    clear h1 h2 h3 HQ sJ sB jE;go_wp2_with fail;refine(aa HC).mono ?_;rintro e w4 ⟨rfl,hb4,hR4⟩;have cv:=hb4.row (show w2.heap.size≠C.z by omega) (aa bA)
    have d1:w4.cell? ⟨w2.heap.size,1,none⟩=some (.string t.t):=cr cv;have bY:=ab ((aa bo).next hzl hb4 hR4);have jF:Hid ((aP 1 t.t 0 ⟨#[]⟩ []).can=aP 1 t.t 0 ByteArray.empty []∧bf (w.heap.size+1) w4 (aP 1 t.t 0 ⟨#[]⟩ [])):=ab (⟨pL _ _ _ _,AU ⟨by decide,by decide⟩ ⟨by decide,by decide⟩ (by omega) (by decide)⟩)
    clear hb4 hR4 cv HC;go_wp2_with (first
     | (refine bh rfl 24 _ _ rfl w.heap.size #[.int .i64 1,.string t.t,.int .i64 0,.string ⟨#[]⟩,.slice none 0 0] rfl rfl 24 aB (aa bY).res eM rfl (by simp[Value.oneCell']) ?_)
     | fail)
    (try simp only[Exit.inBlock,Exit.then])
    refine bK (dM rfl _ _ w.heap.size 24 #[.int .i64 1,.string t.t,.int .i64 0,.string ⟨#[]⟩,.slice none 0 0] (0,0) _ rfl (bW _ _ _ _ _ _ (aa bY).res) underlying24 rfl eM) rfl ?_;exact(aa bY).done (U:=aP 1 t.t 0 ⟨#[]⟩ []) (aa HR) (aa aU) (aa jF).1 (aa jF).2 _
   ·have q3:((t.k:Int)==3)=false:=bn
    cases h4:aL (ak C.E 0 l) (ah 36)
    ·have bO:Hid (RR=_):=ab ((aa HQ).trans (Ms (by rw[←aa nK];exact h1) (by rw[←aa nK];exact h2) (by rw[←aa nK];exact h3) h4))
     have HC:=ab (pK (ah 36) _ (aa bo).rdr h4);have rz:=ab (fun w l h=>sS (C:=C) (l:=l) (o:=o) (ah 40) w h)
     have pA:=ab (fun w l h=>sS (C:=C) (l:=l) (o:=o) (ah 41) w h)
     clear h1 h2 h3 h4 HQ sJ jE;unfold ah at HC rz pA bO;generalize bV C.E d=p at *;go_wp2_with fail;refine(aa HC).mono ?_;rintro e w4 ⟨rfl,hb4⟩;have bY:=ab ((aa bo).below hb4);have sK:=ab (aa rz w4 l (aa bY).rdr);have HS4:Hid (w.heap.size+1≤w4.heap.size):=ab ((aa bY).size);clear hb4 HC rz;go_wp2_with fail;refine(aa sK).mono ?_;intro e w5 hp
     cases hq:ef C.E ⟨#[40]⟩ l with
     | error x=>
      obtain⟨er,i⟩:=x;obtain⟨hb5,rfl⟩:=dr hp hq;have dJ:=ab ((aa bY).but.trans hb5);have aU:Hid (RR=.error (er,i)):=ab (by rw[aa bO,hq,di])
      clear hp hb5 hq;unfold aC;go_wp2_with fail;exact⟨rfl,fu (aa aU) (aa dJ) rfl⟩
     | ok x=>
      obtain⟨xu,r⟩:=x;obtain⟨hb5,rfl,hR5⟩:=dt hp hq;have dC:=ab ((aa bY).next hzl hb5 hR5);have aU:Hid (RR=aR (eX C.E p r) fun x q=>aR (ef C.E ⟨#[41]⟩ q) fun _ m=>.ok (x,m)):=ab (by rw[aa bO,hq,aQ])
      have vI:=ab (aa sB r w5 (aa dC).rdr ((aa HE).but (aa dC).but));clear hp hb5 hq hR5 sK sB;go_wp2_with fail;refine(aa vI).mono ?_;intro e w6 hp
      cases hq:eX C.E p r with
      | error x=>
       obtain⟨er,i⟩:=x;obtain⟨hb6,rfl⟩:=dr hp hq;have fq:=ab ((aa dC).but.trans hb6);have bN:Hid (RR=.error (er,i)):=ab (by rw[aa aU,hq,di])
       clear hp hb6 hq;unfold aC;go_wp2_with fail;exact⟨rfl,fu (aa bN) (aa fq) rfl⟩
      | ok x=>
       obtain⟨x,q⟩:=x;obtain⟨hb6,⟨U,rfl,cA,cL⟩,hR6⟩:=dt hp hq;have qW:Below w6.heap.size w6 (w6.alloc (.cells (ai U) 24)):=ba _;have l7:=((aa dC).next hzl hb6 hR6).below qW;have gF:=ab l7;have rs:Hid ((w6.alloc (.cells (ai U) 24)).heap[w6.heap.size]? =some (.cells (ai U) 24 (0,0))):=ab (ax rfl);have kT:Hid (U.can=x∧bf (w.heap.size+1) (w6.alloc (.cells (ai U) 24)) U):=ab (⟨cA,(cL.mono (aa dC).size).below qW⟩);have bN:Hid (RR=aR (ef C.E ⟨#[41]⟩ q) fun _ m=>.ok (x,m)):=ab (by rw[aa aU,hq,aQ])
       have nM:=ab (aa pA _ q l7.rdr);have hw6:w.heap.size+1≤w6.heap.size:=((aa dC).next hzl hb6 hR6).size;clear hp hb6 hq cA cL hR6 qW l7 vI pA;unfold pv;unfold ai at gF rs kT nM;go_wp2_with fail;refine(aa nM).mono ?_;intro e w7 hp
       cases hq:ef C.E ⟨#[41]⟩ q with
       | error x=>
        obtain⟨er,i⟩:=x;obtain⟨hb7,rfl⟩:=dr hp hq;have jk:=ab ((aa gF).but.trans hb7);have dQ:Hid (RR=.error (er,i)):=ab (by rw[aa bN,hq,di])
        clear hp hb7 hq;unfold aC;go_wp2_with fail;exact⟨rfl,fu (aa dQ) (aa jk) rfl⟩
       | ok y=>
        obtain⟨xu2,m⟩:=y;obtain⟨hb7,rfl,hR7⟩:=dt hp hq;have bY:=ab ((aa gF).next hzl hb7 hR7);have uZ:=hb7.row (show w6.heap.size≠C.z by omega) (aa rs)
        obtain⟨s0,s1,s2,s3,s4⟩:=du uZ;have jF:Hid (U.can=x∧bf (w.heap.size+1) w7 U):=ab (⟨(aa kT).1,(aa kT).2.but hb7 (by omega)⟩)
        have aU:Hid (RR=.ok (x,m)):=ab (by rw[aa bN,hq,aQ])
        clear hp hb7 hq hR7 uZ nM gF rs kT;go_wp2_with (first
         | (refine bh rfl 24 _ _ rfl w.heap.size #[.int .i64 U.k,.string U.t,.int .i64 U.n,.string U.nm,.slice U.xa U.len U.cap] rfl rfl 24 aB (aa bY).res eM rfl (by simp[Value.oneCell']) ?_)
         | fail)
        (try simp only[Exit.inBlock,Exit.then])
        refine bK (dM rfl _ _ w.heap.size 24 #[.int .i64 U.k,.string U.t,.int .i64 U.n,.string U.nm,.slice U.xa U.len U.cap] (0,0) _ rfl (bW _ _ _ _ _ _ (aa bY).res) underlying24 rfl eM) rfl ?_;exact(aa bY).done (U:=U) (aa HR) (aa aU) (aa jF).1 (aa jF).2 _
    ·have bO:Hid (RR=_):=ab ((aa HQ).trans (Mu (by rw[←aa nK];exact h1) (by rw[←aa nK];exact h2) (by rw[←aa nK];exact h3) h4))
     have HC:=ab (pJ (ah 36) _ (aa bo).rdr h4);clear h1 h2 h3 h4 HQ sJ sB;unfold ah at HC
     cases d with
     | zero=>
      have aU:Hid (RR=.error (4,(ak C.E 0 l.tail).a)):=ab (by rw[aa bO];rfl)
      have jT:=ab (fun w h=>A1 (C:=C) (l:=l.tail) (o:=o) w h (aa HO).symm)
      clear bO jE;generalize (ak C.E 0 l.tail).a=ae at *;go_wp2_with fail;refine(aa HC).mono ?_;rintro e w4 ⟨rfl,hb4,hR4⟩;have dD:=ab ((aa bo).but.trans hb4);have jG:=ab (aa jT _ hR4);clear hb4 hR4 HC jT;go_wp2_with fail;refine(aa jG).mono ?_;rintro e w5 ⟨rfl,hb5⟩;have dJ:=ab ((aa dD).trans hb5);clear hb5;unfold aC;go_wp2_with fail;exact⟨rfl,fu (aa aU) (aa dJ) rfl⟩
     | succ d=>
      have aU:Hid (RR=aR (eY C.E (bV C.E d) l.tail) fun x r=>.ok (k8 5 [x],r)):=ab (by rw[aa bO];rfl)
      have hO:=aa HO;have jT:=ab (fun w h=>A0 (C:=C) (l:=l.tail) (o:=o) w h (by omega))
      rw[show o+1=400 - d by omega] at jT
      have HPC:Hid (∀l w,Syr C w l (400 - d)→SyEnv C w→Calls prog 180 #[.pointer (some ⟨C.z,0,none⟩)] w fun e w'=>fJ (eW w.heap.size) C (400 - d) w (eY C.E (bV C.E d) l) e w'):=ab (fun l w h k=>jE d rfl C l w h k)
      have mR:=ab (fun w l h=>AS (C:=C) (l:=l) (o:=o) w h (by omega))
      rw[show o+1=400 - d by omega] at mR
      clear bO jE hd hO HO;generalize 400 - d=o1 at *;generalize bV C.E d=p at *;go_wp2_with fail;refine(aa HC).mono ?_;rintro e w4 ⟨rfl,hb4,hR4⟩;have bY:=ab ((aa bo).next hzl hb4 hR4);have jG:=ab (aa jT _ hR4);clear hb4 hR4 HC jT;go_wp2_with fail;refine(aa jG).mono ?_;rintro e w5 ⟨rfl,hb5,hR5⟩;have dC:=ab ((aa bY).next hzl hb5 hR5);have vI:=ab (aa HPC l.tail w5 (aa dC).rdr ((aa HE).but (aa dC).but));clear hb5 hR5 jG HPC;go_wp2_with fail;refine(aa vI).mono ?_;intro e w6 hp
      cases hq:eY C.E p l.tail with
      | error x=>
       obtain⟨er,i⟩:=x;obtain⟨hb6,rfl⟩:=dr hp hq;have fq:=ab ((aa dC).but.trans hb6);have bN:Hid (RR=.error (er,i)):=ab (by rw[aa aU,hq,di])
       clear hp hb6 hq;unfold aC;go_wp2_with fail;exact⟨rfl,fu (aa bN) (aa fq) rfl⟩
      | ok x=>
       obtain⟨x,q⟩:=x;obtain⟨hb6,⟨U0,rfl,cA,cL⟩,hR6⟩:=dt hp hq;have qW:Below w6.heap.size w6 (w6.alloc (.cells (ai U0) 24)):=ba _;have l7:=((aa dC).next hzl hb6 hR6).below qW;have gF:=ab l7;have rs:Hid ((w6.alloc (.cells (ai U0) 24)).heap[w6.heap.size]? =some (.cells (ai U0) 24 (0,0))):=ab (ax rfl);have kT:Hid (U0.can=x∧bf (w.heap.size+1) (w6.alloc (.cells (ai U0) 24)) U0):=ab (⟨cA,(cL.mono (aa dC).size).below qW⟩);have bN:Hid (RR=.ok (k8 5 [x],q)):=ab (by rw[aa aU,hq,aQ])
       have nM:=ab (aa mR _ q l7.rdr);have hw6:w.heap.size+1≤w6.heap.size:=((aa dC).next hzl hb6 hR6).size;clear hp hb6 hq cA cL hR6 qW l7 vI mR;unfold pv;unfold ai at gF rs kT nM;go_wp2_with fail;refine(aa nM).mono ?_;rintro e w7 ⟨rfl,hb7,hR7⟩;have ql:=(aa gF).next hzl hb7 hR7;have uZ:=hb7.row (show w6.heap.size≠C.z by omega) (aa rs)
       obtain⟨s0,s1,s2,s3,s4⟩:=du uZ;have hl7:bf (w.heap.size+1) w7 U0:=(aa kT).2.but hb7 (by omega)
       obtain⟨U,⟨iR,rc⟩,fO,hli⟩:=xN (k:=5) (nm:=⟨#[]⟩) (KidsX.one (B:=w.heap.size+1) hl7 (aw _) ql.size) ⟨by decide,by decide⟩ (by decide)
       have uW:Below w7.heap.size w7 (w7.alloc (.cells (ai U0) 24)):=ba _;have bY:=ab (ql.below uW);have jF:Hid (U.can=k8 5 [x]∧bf (w.heap.size+1) (w7.alloc (.cells (ai U0) 24)) U):=ab (⟨by rw[fO,(aa kT).1];rfl,hli⟩)
       have kP:=ab (And.intro rc iR);clear hb7 hR7 uZ ql nM gF rs kT iR rc fO hli hl7 uW;unfold ai at bY jF;go_wp2_with (first
        | (refine bh rfl 24 _ _ rfl w.heap.size #[.int .i64 5,.string ⟨#[]⟩,.int .i64 0,.string ⟨#[]⟩,.slice (some ⟨w7.heap.size,0,none⟩) 1 1] rfl rfl 24 aB (aa bY).res eM rfl (by simp[Value.oneCell']) ?_)
        | fail)
       (try simp only[Exit.inBlock,Exit.then])
       refine bK (dM rfl _ _ w.heap.size 24 #[.int .i64 5,.string ⟨#[]⟩,.int .i64 0,.string ⟨#[]⟩,.slice (some ⟨w7.heap.size,0,none⟩) 1 1] (0,0) _ rfl (bW _ _ _ _ _ _ (aa bY).res) underlying24 rfl eM) rfl ?_;rw[←(aa kP).2];exact(aa bY).done (U:=U) (aa HR) (aa bN) (aa jF).1 (aa jF).2 _
end Go.Proofs.YtlmnjbipfacniaaGreatDoor
