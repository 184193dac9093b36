/- The reader of lines: one argument too many; rows of expressi -/
import Derived.Test.YtlmnjbipfacniaaGreatDoorSyEM
set_option maxRecDepth 100000
set_option maxHeartbeats 8000000
namespace Go.Proofs.YtlmnjbipfacniaaGreatDoor
open Go.Proofs.Tryz
open Go.RowKit
theorem Fu {α:Type} {R:Sy α} {x e:Int × Nat} (h:R=.error e):erO R x=e:=by subst h;rfl
theorem GB {α:Type} {R:Sy α} {x:Int × Nat} {a:α × List Tk} (h:R=.ok a):erO R x=x:=by subst h;rfl
theorem KV {C:SyC} {l:List Tk} {o:Nat} (w:World) (hR:Syr C w l o) (hE:SyEnv C w):Calls prog 197 #[.pointer (some ⟨C.z,0,none⟩)] w fun e w'=>e=aC (pH C.E l).1 (pH C.E l).2∧But C.z w w':=by
 have HA:=ab (rp w hR);have HR:=ab hR;have HE:=ab hE;have HS:=ab (fun w h=>rq (C:=C) (l:=l) (o:=o) w h)
 have HT:=ab (fun w=>ul 5 (ak C.E 0 l).a w)
 have HN:=ab (fun w h=>vP (C:=C) (l:=l) (o:=o) w h)
 have HU:=ab (fun q w h k=>C8 (C:=C) (l:=l) (o:=o) w h k q)
 obtain⟨RR,bM⟩:∃RR,RR=pH C.E l:=⟨_,rfl⟩;rw[←bM];unfold pH at bM;have HQ:=ab bM;have fu:=ab (fun s w=>um (ak C.E 0 l) s w)
 clear hR hE bM;generalize dO C.E l=RN at *;generalize lW C.E l=RU at *;generalize ak C.E 0 l=t at *;have HTV:Hid (jC t=.agg #[.int .i64 (t.k:Int),.string t.t,.int .i64 (t.a:Int)]):=ab (rfl);unfold jC at HA fu;have oQ:=fun (W:World)=>(aW W.heap.size W).alloc (ax _) (.cells #[.int .i64 (t.k:Int),.string t.t,.int .i64 (t.a:Int)] 102)
 go_enter func197,ntmps197;go_wp2_with fail;refine(aa HA).mono ?_;rintro e w2 ⟨rfl,hb2⟩;have aF:=ab (ap hb2 (oQ w2));have dY:Hid ((w2.alloc (.cells #[.int .i64 (t.k:Int),.string t.t,.int .i64 (t.a:Int)] 102)).heap[w2.heap.size]? =some (.cells #[.int .i64 (t.k:Int),.string t.t,.int .i64 (t.a:Int)] 102 (0,0))):=ab (aw rfl);have tP:Hid (w2.heap.size≠C.z):=ab (by have:=(aa HR).lt;have:=hb2.size;omega)
 clear hb2 HA
 by_cases h1:t.k=1
 ·have q1:((t.k:Int)==1)=true:=bt
  have bQ:Hid (RR=erO RN (5,t.a)):=ab (by rw[aa HQ,af h1])
  clear h1 HQ HS HU fu;go_wp2_with fail;refine(aa HN _ ((aa HR).below (aa aF))).mono ?_;intro e w3 hp
  cases hq:RN with
  | error x=>
   obtain⟨er,i⟩:=x;obtain⟨hb3,rfl⟩:=dB hp hq;have aq:=ab ((But.of_below (aa aF)).trans hb3);have aS:Hid (RR=(er,i)):=ab (by rw[aa bQ,Fu hq])
   clear hp hb3 hq;unfold aC;go_wp2_with fail;exact⟨rfl,by rw[aa aS];rfl,aa aq⟩
  | ok x=>
   obtain⟨p,r⟩:=x;obtain⟨hb3,rfl, -⟩:=dC hp hq;have aq:=ab ((But.of_below (aa aF)).trans hb3);have aS:Hid (RR=(5,t.a)):=ab (by rw[aa bQ,GB hq])
   have dp:=hb3.row (aa tP) (aa dY);have d2:w3.cell? ⟨w2.heap.size,2,none⟩=some (.int .i64 (t.a:Int)):=cr dp;clear hp hb3 hq dp;go_wp2_with fail;refine(aa HT _).mono ?_;rintro e w4 ⟨rfl,rfl⟩;unfold aC;go_wp2_with fail;exact⟨rfl,by rw[aa aS];rfl,aa aq⟩
 ·have q1:((t.k:Int)==1)=false:=bn
  have bQ:Hid (RR=_):=ab (by rw[aa HQ,ac h1])
  by_cases h2:t.k=2
  ·have q2:((t.k:Int)==2)=true:=bt
   have bK:Hid (RR=erO RU (5,t.a)):=ab (by rw[aa bQ,af h2])
   have tS:=ab (aa HU h2);clear h1 h2 HQ bQ HS HN fu HU;go_wp2_with fail;refine(aa tS _ ((aa HR).below (aa aF)) ((aa HE).below (aa aF))).mono ?_;intro e w3 hp
   cases hq:RU with
   | error x=>
    obtain⟨er,i⟩:=x;obtain⟨hb3,rfl⟩:=dB hp hq;have aq:=ab ((But.of_below (aa aF)).trans hb3);have aS:Hid (RR=(er,i)):=ab (by rw[aa bK,Fu hq])
    clear hp hb3 hq;unfold aC;go_wp2_with fail;exact⟨rfl,by rw[aa aS];rfl,aa aq⟩
   | ok x=>
    obtain⟨p,r⟩:=x;obtain⟨hb3,rfl, -⟩:=dC hp hq;have aq:=ab ((But.of_below (aa aF)).trans hb3);have aS:Hid (RR=(5,t.a)):=ab (by rw[aa bK,GB hq])
    have dp:=hb3.row (aa tP) (aa dY);have d2:w3.cell? ⟨w2.heap.size,2,none⟩=some (.int .i64 (t.a:Int)):=cr dp;clear hp hb3 hq dp;go_wp2_with fail;refine(aa HT _).mono ?_;rintro e w4 ⟨rfl,rfl⟩;unfold aC;go_wp2_with fail;exact⟨rfl,by rw[aa aS];rfl,aa aq⟩
  ·have q2:((t.k:Int)==2)=false:=bn
   have bK:Hid (RR=_):=ab (by rw[aa bQ,ac h2])
   by_cases h3:t.k=3
   ·have q3:((t.k:Int)==3)=true:=bt
    have aS:Hid (RR=(5,t.a)):=ab (by rw[aa bK,af h3])
    clear h1 h2 h3 HQ bQ bK HS HN fu HU;go_wp2_with fail;refine(aa HT _).mono ?_;rintro e w4 ⟨rfl,rfl⟩;unfold aC;go_wp2_with fail;exact⟨rfl,by rw[aa aS];rfl,But.of_below (aa aF)⟩
   ·have q3:((t.k:Int)==3)=false:=bn
    have dJ:Hid (RR=_):=ab (by rw[aa bK,ac h3])
    clear h1 h2 h3 HQ bQ bK HN HU
    cases h45:aM t (ah 45)
    ·cases h36:aM t (ah 36)
     ·cases ip:aM t (ah 40)
      ·have aS:Hid (RR=(2,t.a)):=ab (by rw[aa dJ,ac (by rw[h45,h36,ip];decide)])
       clear dJ;have j5:=ab (fun w=>aa fu ⟨#[45]⟩ w)
       rw[show aM t ⟨#[45]⟩=false from h45] at j5;go_wp2_with fail;refine(aa j5 _).mono ?_;rintro e w3 ⟨rfl,hb3⟩;have aq:=ab (ap (aa aF) hb3);have bj:=ab (am (aa dY) hb3);have d00:w3.cell? ⟨w2.heap.size,0,none⟩=some (.int .i64 (t.k:Int)):=cr (aa bj);have d10:w3.cell? ⟨w2.heap.size,1,none⟩=some (.string t.t):=cr (aa bj);have d20:w3.cell? ⟨w2.heap.size,2,none⟩=some (.int .i64 (t.a:Int)):=cr (aa bj);clear hb3 j5;have mp:=ab (fun w=>aa fu ⟨#[36]⟩ w)
       rw[show aM t ⟨#[36]⟩=false from h36] at mp;go_wp2_with fail;refine(aa mp _).mono ?_;rintro e w4 ⟨rfl,hb4⟩;have dz:=ab (ap (aa aq) hb4);have bZ:=ab (am (aa bj) hb4);have d01:w4.cell? ⟨w2.heap.size,0,none⟩=some (.int .i64 (t.k:Int)):=cr (aa bZ);have d11:w4.cell? ⟨w2.heap.size,1,none⟩=some (.string t.t):=cr (aa bZ);have d21:w4.cell? ⟨w2.heap.size,2,none⟩=some (.int .i64 (t.a:Int)):=cr (aa bZ);clear hb4 mp;have mR:=ab (fun w=>aa fu ⟨#[40]⟩ w)
       rw[show aM t ⟨#[40]⟩=false from ip] at mR;go_wp2_with fail;refine(aa mR _).mono ?_;rintro e w5 ⟨rfl,hb5⟩;have ez:=ab (ap (aa dz) hb5);have dt:=ab (am (aa bZ) hb5);have d02:w5.cell? ⟨w2.heap.size,0,none⟩=some (.int .i64 (t.k:Int)):=cr (aa dt);have d12:w5.cell? ⟨w2.heap.size,1,none⟩=some (.string t.t):=cr (aa dt);have d22:w5.cell? ⟨w2.heap.size,2,none⟩=some (.int .i64 (t.a:Int)):=cr (aa dt);clear hb5 mR;go_wp2_with fail;refine(aa HS _ ((aa HR).below (aa ez))).mono ?_;rintro e w9 ⟨rfl,hb9⟩;have ij:=ab (ap (aa ez) hb9);clear hb9;unfold aC;go_wp2_with fail;exact⟨rfl,by rw[aa aS];rfl,But.of_below (aa ij)⟩
      ·have aS:Hid (RR=(5,t.a)):=ab (by rw[aa dJ,af (.inr (.inr ip))])
       clear dJ;have j5:=ab (fun w=>aa fu ⟨#[45]⟩ w)
       rw[show aM t ⟨#[45]⟩=false from h45] at j5;go_wp2_with fail;refine(aa j5 _).mono ?_;rintro e w3 ⟨rfl,hb3⟩;have aq:=ab (ap (aa aF) hb3);have bj:=ab (am (aa dY) hb3);have d00:w3.cell? ⟨w2.heap.size,0,none⟩=some (.int .i64 (t.k:Int)):=cr (aa bj);have d10:w3.cell? ⟨w2.heap.size,1,none⟩=some (.string t.t):=cr (aa bj);have d20:w3.cell? ⟨w2.heap.size,2,none⟩=some (.int .i64 (t.a:Int)):=cr (aa bj);clear hb3 j5;have mp:=ab (fun w=>aa fu ⟨#[36]⟩ w)
       rw[show aM t ⟨#[36]⟩=false from h36] at mp;go_wp2_with fail;refine(aa mp _).mono ?_;rintro e w4 ⟨rfl,hb4⟩;have dz:=ab (ap (aa aq) hb4);have bZ:=ab (am (aa bj) hb4);have d01:w4.cell? ⟨w2.heap.size,0,none⟩=some (.int .i64 (t.k:Int)):=cr (aa bZ);have d11:w4.cell? ⟨w2.heap.size,1,none⟩=some (.string t.t):=cr (aa bZ);have d21:w4.cell? ⟨w2.heap.size,2,none⟩=some (.int .i64 (t.a:Int)):=cr (aa bZ);clear hb4 mp;have mR:=ab (fun w=>aa fu ⟨#[40]⟩ w)
       rw[show aM t ⟨#[40]⟩=true from ip] at mR;go_wp2_with fail;refine(aa mR _).mono ?_;rintro e w5 ⟨rfl,hb5⟩;have ez:=ab (ap (aa dz) hb5);have dt:=ab (am (aa bZ) hb5);have d02:w5.cell? ⟨w2.heap.size,0,none⟩=some (.int .i64 (t.k:Int)):=cr (aa dt);have d12:w5.cell? ⟨w2.heap.size,1,none⟩=some (.string t.t):=cr (aa dt);have d22:w5.cell? ⟨w2.heap.size,2,none⟩=some (.int .i64 (t.a:Int)):=cr (aa dt);clear hb5 mR;go_wp2_with fail;refine(aa HT _).mono ?_;rintro e w9 ⟨rfl,rfl⟩;unfold aC;go_wp2_with fail;exact⟨rfl,by rw[aa aS];rfl,But.of_below (aa ez)⟩
     ·have aS:Hid (RR=(5,t.a)):=ab (by rw[aa dJ,af (.inr (.inl h36))])
      clear dJ;have j5:=ab (fun w=>aa fu ⟨#[45]⟩ w)
      rw[show aM t ⟨#[45]⟩=false from h45] at j5;go_wp2_with fail;refine(aa j5 _).mono ?_;rintro e w3 ⟨rfl,hb3⟩;have aq:=ab (ap (aa aF) hb3);have bj:=ab (am (aa dY) hb3);have d00:w3.cell? ⟨w2.heap.size,0,none⟩=some (.int .i64 (t.k:Int)):=cr (aa bj);have d10:w3.cell? ⟨w2.heap.size,1,none⟩=some (.string t.t):=cr (aa bj);have d20:w3.cell? ⟨w2.heap.size,2,none⟩=some (.int .i64 (t.a:Int)):=cr (aa bj);clear hb3 j5;have mp:=ab (fun w=>aa fu ⟨#[36]⟩ w)
      rw[show aM t ⟨#[36]⟩=true from h36] at mp;go_wp2_with fail;refine(aa mp _).mono ?_;rintro e w4 ⟨rfl,hb4⟩;have dz:=ab (ap (aa aq) hb4);have bZ:=ab (am (aa bj) hb4);have d01:w4.cell? ⟨w2.heap.size,0,none⟩=some (.int .i64 (t.k:Int)):=cr (aa bZ);have d11:w4.cell? ⟨w2.heap.size,1,none⟩=some (.string t.t):=cr (aa bZ);have d21:w4.cell? ⟨w2.heap.size,2,none⟩=some (.int .i64 (t.a:Int)):=cr (aa bZ);clear hb4 mp;go_wp2_with fail;refine(aa HT _).mono ?_;rintro e w9 ⟨rfl,rfl⟩;unfold aC;go_wp2_with fail;exact⟨rfl,by rw[aa aS];rfl,But.of_below (aa dz)⟩
    ·have aS:Hid (RR=(5,t.a)):=ab (by rw[aa dJ,af (.inl h45)])
     clear dJ;have j5:=ab (fun w=>aa fu ⟨#[45]⟩ w)
     rw[show aM t ⟨#[45]⟩=true from h45] at j5;go_wp2_with fail;refine(aa j5 _).mono ?_;rintro e w3 ⟨rfl,hb3⟩;have aq:=ab (ap (aa aF) hb3);have bj:=ab (am (aa dY) hb3);have d00:w3.cell? ⟨w2.heap.size,0,none⟩=some (.int .i64 (t.k:Int)):=cr (aa bj);have d10:w3.cell? ⟨w2.heap.size,1,none⟩=some (.string t.t):=cr (aa bj);have d20:w3.cell? ⟨w2.heap.size,2,none⟩=some (.int .i64 (t.a:Int)):=cr (aa bj);clear hb3 j5;go_wp2_with fail;refine(aa HT _).mono ?_;rintro e w9 ⟨rfl,rfl⟩;unfold aC;go_wp2_with fail;exact⟨rfl,by rw[aa aS];rfl,But.of_below (aa aq)⟩
open Go.RowKit
theorem wc:(prog.info? 24).map (fun i=>(i.zero,i.size,i.bytes))=some (some (.agg aB),5,72):=by kernel_rfl
theorem vQ {w:World} {U:PT}:∀k u,(eO U)[k]? =some u→(w.alloc (.cells (ai U) 24)).cell? ⟨w.heap.size,k,none⟩=some u:=fun k u h=>by
 rw[eX _ _ _ _ _ _ (aw rfl),←th];exact h
structure KidsX (B:Nat) (w:World) (v:Value) (L:List PT) (l:List PT):Prop where
 row:cc w B 24 5 eO v L
 can:L.map PT.can=l
 lies:∀x ∈ L,gm B v.ownBlock w x
theorem KidsX.but {B z:Nat} {w w':World} {v:Value} {L l:List PT} (h:KidsX B w v L l) (hb:But z w w') (hz:z < B):KidsX B w' v L l:=
 ⟨h.row.same fun k hk=>hb.block k (h.row.low hk).2 (by have:=(h.row.low hk).1;omega),h.can,fun x hx=>(h.lies x hx).but hb hz⟩
theorem KidsX.below {B:Nat} {w w':World} {v:Value} {L l:List PT} (h:KidsX B w v L l) (hb:Below w.heap.size w w'):KidsX B w' v L l:=⟨h.row.later hb,h.can,fun x hx=>(h.lies x hx).below hb⟩
theorem KidsX.nil {B:Nat} {w:World}:KidsX B w (.slice none 0 0) [] []:=⟨m8 _ _ _ _,rfl,fun x hx=>by simp at hx⟩
theorem KidsX.snoc {B:Nat} {w w4 w6:World} {v v':Value} {L l:List PT} {U:PT} (h:KidsX B w4 v L l) (hw:B≤w.heap.size) (hv:∀k,v.ownBlock=some k→k < w.heap.size) (hL:bd w.heap.size w4 U)
  (aV:cc w6 B 24 5 eO v' (L++[U])) (hg:(w4.alloc (.cells (ai U) 24)).grownBy w6 v.ownBlock) (hn:v'.ownBlock=v.ownBlock∨v'.ownBlock=some (w4.alloc (.cells (ai U) 24)).heap.size):KidsX B w6 v' (L++[U]) (l++[U.can]):=by
 have hb5:Below w4.heap.size w4 (w4.alloc (.cells (ai U) 24)):=ba _;refine⟨aV,by rw[qA,h.can];rfl,fun x hx=> ?_⟩
 rcases rR.1 hx with hx | hx
 ·exact((h.lies x hx).below hb5).grown hg hn
 ·rw[fE] at hx
  subst hx;exact(((hL.except hw fun i hi=>hv i hi)).below hb5).grown hg hn
theorem JS {w:World} {B g cap i:Nat} {v:Value} {l:List PT} {x:PT} (h:cc w B 24 5 eO v l) (hv:v=.slice (some ⟨g,0,none⟩) l.length cap) (hx:l[i]? =some x):
  w.cell? ⟨g,i * 5,none⟩=some (.int .i64 x.k)∧w.cell? ⟨g,i * 5+1,none⟩=some (.string x.t)∧w.cell? ⟨g,i * 5+2,none⟩=some (.int .i64 x.n)∧w.cell? ⟨g,i * 5+3,none⟩=some (.string x.nm)∧w.cell? ⟨g,i * 5+4,none⟩=some (.slice x.xa x.len x.cap):=
 ⟨h.cell jh hv hx (k:=0) rfl,h.cell jh hv hx (k:=1) rfl,h.cell jh hv hx (k:=2) rfl,h.cell jh hv hx (k:=3) rfl,h.cell jh hv hx (k:=4) rfl⟩
theorem ES {w:World} {B g cap:Nat} {L:List PT} {nm:ByteArray} (h:cc w B 24 5 eO (.slice (some ⟨g,0,none⟩) L.length cap) L) (hL:∀x ∈ L,x.In w) {k:Int} (hk:0≤k∧k≤100) (hn:nm.size≤65536):(gd k nm g cap L).In w:=by
 have hf:=h.max;have eI:L.length≤cap:=by
  obtain⟨a,c,e, -,hc⟩:=h.len;injection e with _ _ e3
  omega
 refine⟨by constructor <;> omega,by unfold maxLen;decide,by decide,by unfold maxLen;omega,hf,eI,fun _=>rfl,fun i=> ?_⟩
 obtain⟨x0,x1,x2,x3,x4⟩:=JS h rfl (i:=i.val) (x:=L[i]) (jH i.isLt);simp only[oI];exact⟨⟨x0,x1,x2,x3,x4⟩,hL _ (qz i.isLt)⟩
theorem xS {B:Nat} {w:World} {v:Value} {L l:List PT} {k:Int} {nm:ByteArray} (h:KidsX B w v L l) (hk:0≤k∧k≤100) (hn:nm.size≤65536):∃U:PT,(pv U=.agg #[.int .i64 k,.string ⟨#[]⟩,.int .i64 0,.string nm,v]∧ai U= #[.int .i64 k,.string ⟨#[]⟩,.int .i64 0,.string nm,v])∧U.can=aI k ByteArray.empty 0 nm l∧bd B w U:=by
 rcases h.row.2 with ⟨rfl,h0⟩ | ⟨g,cap,cur,rfl,hb,hg,hc,hm,hs,ht⟩
 ·obtain rfl:=kJ h0
  have hl:l=[]:=by rw[←h.can];rfl
  subst hl;exact⟨aI k ⟨#[]⟩ 0 nm [],⟨rfl,rfl⟩,pu _ _ _ _,sK hk ⟨by decide,by decide⟩ (by decide) hn⟩
 ·refine⟨gd k nm g cap L,⟨rfl,rfl⟩,by rw[wP,h.can];rfl,fun X hX=> ?_⟩
  have lc:=h.row.low (k:=g) rfl;have hr:cc X B 24 5 eO (.slice (some ⟨g,0,none⟩) L.length cap) L:=h.row.same fun k hk=>by
   have:k=g:=by simpa [Value.ownBlock] using hk.symm
   subst this;exact hX k lc.1 lc.2
  exact ES hr (fun x hx=>(h.lies x hx).lies X hX) hk hn
def argsL (B:Nat) (l:List PT) (e:Ending) (w:World):Prop:=∃v L,e=.returned v∧KidsX B w v L l
section
variable {E f:Nat} {p:Option Lv} {o:List PT} {l r q:List Tk} {x:PT}
theorem Mo (ho:o.length=8):iA E p (f+1) o l=.error (pH E l):=by rw[iA,af ho];rfl
theorem NO {e:Int × Nat} (ho:o.length≠8) (h:eV E p l=.error e):iA E p (f+1) o l=.error e:=by rw[iA,ac ho,h];rfl
theorem Mn (ho:o.length≠8) (h:eV E p l=.ok (x,r)) (hc:aM (ak E 0 r) (ah 44)=true):iA E p (f+1) o l=iA E p f (o++[x]) r.tail:=by rw[iA,ac ho,h,aT,af hc]
theorem Mp (ho:o.length≠8) (h:eV E p l=.ok (x,r)) (hc:aM (ak E 0 r) (ah 44)=false):iA E p (f+1) o l=aR (ee E (ah 41) r) fun _ q=>.ok (o++[x],q):=by rw[iA,ac ho,h,aT,ac (by rw[hc];decide)]
end
theorem JP {d:Nat} (HX:nN 136 d (fun E=>eV E (bV E d))) (C:SyC) (l:List Tk) (w:World) (hR:Syr C w l (400 - d)) (hE:SyEnv C w):
  Calls prog 191 #[.pointer (some ⟨C.z,0,none⟩)] w fun e w'=>fV (argsL w.heap.size) C (400 - d) w (mE C.E (bV C.E d) l) e w':=by
 have nD:=ab hR;have HE:=ab hE;have so:Hid (∀l w,Syr C w l (400 - d)→SyEnv C w→Calls prog 136 #[.pointer (some ⟨C.z,0,none⟩)] w fun e w'=>fV (fv w.heap.size) C (400 - d) w (eV C.E (bV C.E d) l) e w'):=ab (fun l w h k=>HX C l w h k)
 obtain⟨RR,bM⟩:∃RR,RR=mE C.E (bV C.E d) l:=⟨_,rfl⟩;rw[←bM];obtain⟨B,hB⟩:∃B,B=w.heap.size:=⟨_,rfl⟩;rw[←hB];have aD:=ab hB;have hzB:C.z < B:=by rw[hB];exact hR.lt
 generalize bV C.E d=p at *;generalize 400 - d=od at *
 cases hs:aM (ak C.E 0 l) (ah 41)
 ·have su:Hid (RR=iA C.E p 9 [] l):=ab (by rw[bM];unfold mE;rw[hs,ac (by decide)])
  have rc:=ab (pr (ah 41) w hR hs);unfold ah at rc;clear hR hE bM hB hs HX;go_enter func191,ntmps191;go_wp2_with fail;refine(aa rc).mono ?_;rintro e w1 ⟨rfl,hb1⟩;have j5:Hid (Syr C w1 l od∧But C.z w w1):=ab (⟨(aa nD).below hb1,But.of_below hb1⟩);clear hb1 rc;go_wp2_with fail;go_loopw [3] (fun v wr=>∃(o L:List PT) (l':List Tk) (a:Option Addr) (cap:Nat),o.length≤8∧L.length=o.length∧v=.slice a o.length cap∧Hid (KidsX B wr (.slice a o.length cap) L o∧Syr C wr l' od∧But C.z w wr∧RR=iA C.E p (9 - o.length) o l')) (fun v _=>9 - lenV v)
  case atStart=>exact⟨[],[],l,none,0,by simp,rfl,rfl,KidsX.nil,(aa j5).1,(aa j5).2,aa su⟩
  case round=>
   obtain⟨o,L,l',a,cap,ho,hLo,rfl,HI⟩:=hrel;obtain⟨f,hf⟩:∃f,9 - o.length=f+1:=⟨8 - o.length,by omega⟩
   have jf:Hid (RR=iA C.E p (f+1) o l'):=ab (by rw[←hf];exact(aa HI).2.2.2)
   have HF:=ab hf;have HLO:=ab hLo;have j6:=ab ((aa HE).but (aa HI).2.2.1);clear hf hLo j5 su
   by_cases h8:o.length=8
   ·have dl:Hid (RR=.error ((pH C.E l').1,(pH C.E l').2)):=ab (by rw[aa jf];exact Mo h8)
    have q8:((o.length:Int)==8)=true:=bt;have HTM:=ab (KV wr (aa HI).2.1 (aa j6));clear h8 jf;generalize (pH C.E l').1=e1 at *;generalize (pH C.E l').2=e2 at *;go_wp2_with fail;refine(aa HTM).mono ?_;rintro e w2 ⟨rfl,hb2⟩;have aF:=ab ((aa HI).2.2.1.trans hb2);clear hb2;unfold aC;go_wp2_with fail;exact⟨rfl,fH (aa dl) (aa aF) rfl⟩
   ·have q8:((o.length:Int)==8)=false:=bn
    have H8:=ab h8;have dy:=ab (aa so l' wr (aa HI).2.1 (aa j6));clear h8;go_wp2_with fail;refine(aa dy).mono ?_;intro e w3 hp
    cases hq:eV C.E p l' with
    | error x=>
     obtain⟨er,i⟩:=x;obtain⟨hb3,rfl⟩:=dB hp hq;have aq:=ab ((aa HI).2.2.1.trans hb3);have dl:Hid (RR=.error (er,i)):=ab (by rw[aa jf];exact NO (aa H8) hq)
     clear hp hb3 hq;unfold aC;go_wp2_with fail;exact⟨rfl,fH (aa dl) (aa aq) rfl⟩
    | ok x=>
     obtain⟨x,r⟩:=x;obtain⟨hb3,⟨U,rfl,cE,cS⟩,hR3⟩:=dC hp hq;have HQX:=ab hq;have cZ:=ab ((aa HI).1.but hb3 hzB);have hwB:B≤wr.heap.size:=by rw[aa aD];exact(aa HI).2.2.1.size
     have si:B≤w3.heap.size:=by have:=hb3.size;omega
     have bz:Below w3.heap.size w3 (w3.alloc (.cells (ai U) 24)):=ba _;have eA:=ab ((aa cZ).row.later bz);have lr:Hid (B≤(w3.alloc (.cells (ai U) 24)).heap.size):=ab (by rw[eu];omega)
     have uf:=ab (vQ (w:=w3) (U:=U));have HAF:Hid (∀v6 w6,cc w6 B 24 5 eO v6 (L++[U])→(w3.alloc (.cells (ai U) 24)).grownBy w6 (Value.slice a o.length cap).ownBlock→(v6.ownBlock=(Value.slice a o.length cap).ownBlock∨v6.ownBlock=some (w3.alloc (.cells (ai U) 24)).heap.size)→KidsX B w6 v6 (L++[U]) (o++[x])∧Syr C w6 r od∧But C.z w w6):=ab (fun v6 w6 aV hg hn=>by
      have AH:=Dl (aa eA) (aa lr) hg;refine⟨?_,(hR3.below bz).old (aa nD) (aa aD).symm AH,FE (((aa HI).2.2.1.trans hb3).trans (But.of_below bz)) (aa aD).symm hg.size AH ⟨hg.os,hg.tape,hg.output⟩⟩;have:=(aa cZ).snoc hwB (fun k hk=>((aa HI).1.row.low hk).2) cS aV hg hn
      rw[cE] at this;exact this)
     have hol:L.length≤1000000:=by rw[aa HLO];omega
     have HLR:Hid (L.length=o.length):=ab (aa HLO);clear hp hb3 hq cE cS hR3 bz dy si hwB;unfold pv;unfold ai at eA lr uf HAF;have gM:=ab (fun w h hs=>pq (C:=C) (l:=r) (o:=od) (ah 44) w h hs)
     have pZ:=ab (fun w h hs=>pr (C:=C) (l:=r) (o:=od) (ah 44) w h hs)
     have rg:=ab (fun w h=>sJ (C:=C) (l:=r) (o:=od) (ah 41) w h)
     unfold ah at gM pZ;go_wp2_with (first
      | (at_builtin;refine xP underlying22 wc rfl (by decide) (by decide) jh nK rfl _ _ rfl (aa eA) (aa lr) U w3.heap.size 1 rfl rfl (aa uf) hol ?_;intro v6 w6 aV bS dX;have dQ:=ab (aa HAF v6 w6 aV bS dX);have HVL:=ab aV.len;clear bS dX aV HAF uf)
      | fail)
     obtain⟨a6,cap6,eg, -, -⟩:=aa HVL;have cM:(o++[x]).length=o.length+1:=by simp
     have CP:(L++[U]).length=o.length+1:=by simp[aa HLO]
     rw[CP] at eg;subst eg
     cases hc:aM (ak C.E 0 r) ⟨#[44]⟩
     ·have dl:Hid (RR=aR (ee C.E (ah 41) r) fun _ q=>.ok (o++[x],q)):=ab (by rw[aa jf];exact Mp (aa H8) (aa HQX) hc)
      refine(aa pZ w6 (aa dQ).2.1 hc).mono ?_;rintro e w7 ⟨rfl,hb7⟩;have HS7:Hid (KidsX B w7 (.slice a6 (o.length+1) cap6) (L++[U]) (o++[x])∧Syr C w7 r od∧But C.z w w7):=ab (⟨(aa dQ).1.below hb7,(aa dQ).2.1.below hb7,(aa dQ).2.2.trans (But.of_below hb7)⟩);have t8:=ab (aa rg w7 (aa HS7).2.1);clear hb7 hc pZ gM cM CP rg jf HQX;unfold ah at t8 dl;go_wp2_with fail;refine(aa t8).mono ?_;intro e w8 hp
      cases hq:ee C.E ⟨#[41]⟩ r with
      | error y=>
       obtain⟨er,i⟩:=y;obtain⟨jt,rfl⟩:=dB hp hq;have ug:=ab ((aa HS7).2.2.trans jt);have eJ:Hid (RR=.error (er,i)):=ab (by rw[aa dl,hq,dn])
       clear hp jt hq;unfold aC;go_wp2_with fail;exact⟨rfl,fH (aa eJ) (aa ug) rfl⟩
      | ok y=>
       obtain⟨y,q⟩:=y;obtain⟨jt,rfl,hR8⟩:=dC hp hq;have HZ:Hid (KidsX B w8 (.slice a6 (o.length+1) cap6) (L++[U]) (o++[x])∧Syr C w8 q od∧But C.z w w8):=ab (⟨(aa HS7).1.but jt hzB,hR8,(aa HS7).2.2.trans jt⟩);have eJ:Hid (RR=.ok (o++[x],q)):=ab (by rw[aa dl,hq,aT])
       clear hp jt hq hR8;go_wp2_with fail;go_ret;exact nI (aa eJ) (aa HZ).2.2 ⟨_,_,rfl,(aa HZ).1⟩ (aa HZ).2.1
     ·have dl:Hid (RR=iA C.E p f (o++[x]) r.tail):=ab (by rw[aa jf];exact Mn (aa H8) (aa HQX) hc)
      refine(aa gM w6 (aa dQ).2.1 hc).mono ?_;rintro e w7 ⟨rfl,hb7,hR7⟩;have HZ:Hid (KidsX B w7 (.slice a6 (o.length+1) cap6) (L++[U]) (o++[x])∧Syr C w7 r.tail od∧But C.z w w7):=ab (⟨(aa dQ).1.but hb7 hzB,hR7,(aa dQ).2.2.trans hb7⟩);clear hb7 hR7 hc pZ gM rg;go_wp2_with fail;have hF:=aa HF;have h8:=aa H8;exact⟨⟨o++[x],L++[U],r.tail,a6,cap6,by rw[cM];omega,by rw[cM,CP],by rw[cM],by rw[cM];exact(aa HZ).1,(aa HZ).2.1,(aa HZ).2.2,by rw[aa dl,cM,show 9 - (o.length+1)=f by omega]⟩,by show 9 - (o.length+1) < 9 - o.length;omega⟩
 ·have su:Hid (RR=.ok ([],l.tail)):=ab (by rw[bM];unfold mE;rw[hs,af rfl])
  have rc:=ab (pq (ah 41) w hR hs);unfold ah at rc;clear hR hE bM hB hs HX;go_enter func191,ntmps191;go_wp2_with fail;refine(aa rc).mono ?_;rintro e w1 ⟨rfl,hb1,hR1⟩;have HZ:=ab (And.intro hb1 hR1);clear hb1 hR1 rc;go_wp2_with fail;go_ret;exact nI (aa su) (aa HZ).1 ⟨_,_,rfl,KidsX.nil⟩ (aa HZ).2
end Go.Proofs.YtlmnjbipfacniaaGreatDoor
