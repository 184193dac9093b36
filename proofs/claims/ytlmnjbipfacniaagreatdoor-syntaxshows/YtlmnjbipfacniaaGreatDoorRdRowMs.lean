/- The reader of patterns: numbers. The reader of patterns: tex -/
import Derived.Test.YtlmnjbipfacniaaGreatDoorRdBMs
import Derived.Deep.RegionLaw
set_option maxRecDepth 100000
set_option maxHeartbeats 4000000
namespace Go.Proofs.YtlmnjbipfacniaaGreatDoor
open Go.Proofs.Tryz
open Go.RowKit
theorem LG (s:ByteArray) (j:Nat):∀m,kY s j m≤65537
 | 0=>by show 0≤65537;decide
 | m+1=>by rw[kY];omega
theorem El {s:ByteArray} {k:Nat} (h:cR (aj s k)=true):k < s.size:=by
 by_cases q:k < s.size
 ·exact q
 ·rw[pM s k (by omega)] at h;exact absurd h (by decide)
theorem EO {s:ByteArray} {j m k z:Nat} {o:Int} {w w4 wr:World} {v:Int} (hkm:k+1=j+(m+1)) (hc:(kY s j (m+1):Int)=v) (hk:j+(m+1)≤s.size)
  (hR:bQ (w4.setCell ⟨z,1,none⟩ (.int .i64 ((k+1:Nat):Int))) z s (k+1) o) (hB:But z w (w4.setCell ⟨z,1,none⟩ (.int .i64 ((k+1:Nat):Int)))) (hd:iN s j=iN s (k+1)) (hq:aj s j=48→m+1≤1) (hm:kC wr z=k) (_hlt:k < s.size):
  (∃m:Nat,Value.int .i64 v=.int .i64 (kY s j m:Int)∧j+m≤s.size∧Hid (bQ (w4.setCell ⟨z,1,none⟩ (.int .i64 ((k:Int)+1))) z s (j+m) o)∧Hid (But z w (w4.setCell ⟨z,1,none⟩ (.int .i64 ((k:Int)+1))))∧Hid (iN s j=iN s (j+m))∧Hid (aj s j=48→m≤1))∧
  s.size - kC (w4.setCell ⟨z,1,none⟩ (.int .i64 ((k:Int)+1))) z < s.size - kC wr z:=by
 have h2:=hR.at;refine⟨⟨m+1,by rw[hc],hk, ?_,hB, ?_,hq⟩, ?_⟩
 ·rw[←hkm];exact hR
 ·rw[←hkm];exact hd
 ·have h3:kC (w4.setCell ⟨z,1,none⟩ (.int .i64 ((k:Int)+1))) z=k+1:=h2
  rw[h3,hm];omega
theorem IC {s:ByteArray} {i z:Nat} {o:Int} (w:World) (hs:s.size≤65536) (hi:i≤s.size) (hR:bQ w z s i o):Calls prog 202 #[.pointer (some ⟨z,0,none⟩)] w fun e w'=>fR numV z s o w (mC s i) e w':=by
 have pb:=eG s i hi;have HN:=ab (sU w hs hi hR);have HL:=ab (xJ (nx s i) (jY _ _));have HE:=ab (fun q=>BH (s:=s) (j:=sk s i) q)
 unfold mC;clear hR
 cases h1:cR (nx s i)
 ·rw[h1] at HL
  rw[ac (by decide)]
  show Calls _ _ _ _ fun e w'=>fR numV z s o w (.error (2,sk s i)) e w'
  clear h1 HE;generalize sk s i=k at *;generalize nx s i=b at *;go_enter func202,ntmps202;go_wp2_with fail;refine(aa HN).mono ?_;rintro e w2 ⟨rfl,hb,cX⟩;have HB:=ab hb;have HS:=ab (uh w2 cX);clear hb cX;go_wp2_with fail;refine(aa HL _).mono ?_;rintro e w2 ⟨rfl,rfl⟩;go_wp2_with (refine(aa HS).mono ?_;rintro e w ⟨rfl,rfl⟩;unfold aC);exact⟨rfl,fF rfl (aa HB) rfl⟩
 ·have hE:=aa HE h1
  rw[h1] at HL;rw[af rfl];have jB:cR (aj s (sk s i))=true:=h1;clear h1 HE;generalize nx s i=b at *;generalize hj:sk s i=j at *;clear hj hi;have hjs:j < s.size:=by omega
  have HJ:=ab (mw s j hjs)
  -- what it comes to
  obtain⟨R,hRd⟩:∃R:Rd Nat,R=(if aj s j=48∧j+1 < iN s j then .error (2,j+1) else if 65536 < kY s j (iN s j - j) then .error (3,j) else .ok (kY s j (iN s j - j),iN s j)):=⟨_,rfl⟩;rw[←hRd];have HR:=ab hRd;clear hRd;go_enter func202,ntmps202;go_wp2_with fail;refine(aa HN).mono ?_;rintro e w2 ⟨rfl,hb,cX⟩;have HB:=ab hb;have H2:=ab cX;have c1:=cX.c1;clear hb cX HN;go_wp2_with fail;refine(aa HL _).mono ?_;rintro e w2 ⟨rfl,rfl⟩;clear HL;go_wp2_with fail;clear c1;have HD0:=ab jB;have HE:=ab hE;clear jB hE pb;go_loopw [4] (fun v wr=>∃m:Nat,v=.int .i64 (kY s j m:Int)∧j+m≤s.size∧Hid (bQ wr z s (j+m) o)∧Hid (But z w wr)∧Hid (iN s j=iN s (j+m))∧Hid (aj s j=48→m≤1)) (fun _ wr=>s.size - kC wr z)
  case atStart=>exact⟨0,rfl,by omega,aa H2,aa HB,rfl,fun _=>by omega⟩
  case round=>
   obtain⟨m,rfl,hk,sG,ks,HSr,HQ⟩:=hrel;have HH:=ab (fun w h=>zD (z:=z) (o:=o) w hs hk h)
   have HD:=ab (xJ (aj s (j+m)) (jY _ _));have HM:=ab (aa sG).at;have bL:=ab (fun (q:cR (aj s (j+m))=true)=>(show iN s (j+m)=iN s (j+m+1) from nT (El q) q))
   have ap:=ab (fun (q:cR (aj s (j+m))=false)=>(show iN s (j+m)=j+m from oL fun _=>q))
   have ov:=LG s j m;have HCP:Hid (kY s j (m+1)=min (10 * kY s j m+(aj s (j+m) - 48)) 65537):=ab (rfl)
   cases h2:cR (aj s (j+m))
   ·have gQ:=ab (aa ap h2)
    rw[h2] at HD;clear h2 bL ap HCP;have HT:=ab (fun w=>wN 3 j w)
    have ko:Hid (iN s j=j+m):=ab (by rw[aa HSr,aa gQ])
    have HNZ:Hid (¬(aj s j=48∧j+1 < iN s j)):=ab (fun ⟨q1,q2⟩=>by have h1:=aa HQ q1;have h2:=aa ko;omega)
    generalize hn:kY s j m=n at *;have HC:Hid (kY s j (iN s j - j)=n):=ab (by rw[aa ko,Nat.add_sub_cancel_left];exact hn)
    clear hn
    by_cases hq:65536 < n
    ·have hg:(65536:Int) < (n:Int):=by omega
     have dT:Hid (R=.error (3,j)):=ab (by rw[aa HR,ac (aa HNZ),af (by rw[aa HC];exact hq)])
     clear hq;go_wp2_with fail;refine(aa HH _ (aa sG)).mono ?_;rintro e w3 ⟨rfl,hb⟩;have ao:=ab ((aa ks).trans (But.of_below hb));clear hb;go_wp2_with fail;refine(aa HD _).mono ?_;rintro e w3 ⟨rfl,rfl⟩;go_wp2_with (refine(aa HT _).mono ?_;rintro e w ⟨rfl,rfl⟩;unfold aC);exact⟨rfl,fF (aa dT) (aa ao) rfl⟩
    ·have hg:¬(65536:Int) < (n:Int):=by omega
     have dT:Hid (R=.ok (n,j+m)):=ab (by rw[aa HR,ac (aa HNZ),ac (by rw[aa HC];exact hq),aa HC,aa ko])
     clear hq;go_wp2_with fail;refine(aa HH _ (aa sG)).mono ?_;rintro e w3 ⟨rfl,hb⟩;have ao:=ab ((aa ks).trans (But.of_below hb));have H3:=ab ((aa sG).below hb);clear hb;go_wp2_with fail;refine(aa HD _).mono ?_;rintro e w3 ⟨rfl,rfl⟩;go_wp2_with fail;go_ret;exact lA (aa dT) (aa ao) rfl (aa H3)
   ·have au:=El h2
    have gQ:=ab (aa bL h2);have hdd:48≤aj s (j+m)∧aj s (j+m)≤57:=nf h2;have HDE:Hid (j+m < iN s j):=ab (by
     rw[aa HSr];exact(BH h2).1)
    rw[h2] at HD;clear h2 bL ap
    by_cases hz:1≤m∧aj s j=48
    ·have hm:m=1:=by have:=aa HQ hz.2;omega
     subst hm;have dT:Hid (R=.error (2,j+1)):=ab (by rw[aa HR,af ⟨hz.2,aa HDE⟩])
     have lZ:=hz.2;clear hz;have hg:(j:Int) < ((j+1:Nat):Int):=by omega
     have hz3:((s[j]'hjs).toNat:Int)=48:=by rw[aa HJ,lZ];rfl
     have hz4:(((s[j]'hjs).toNat:Int)==48)=true:=by rw[hz3];rfl
     clear lZ hz3;go_wp2_with fail;refine(aa HH _ (aa sG)).mono ?_;rintro e w3 ⟨rfl,hb⟩;have ao:=ab ((aa ks).trans (But.of_below hb));have H3:=ab ((aa sG).below hb);clear hb;go_wp2_with fail;refine(aa HD _).mono ?_;rintro e w3 ⟨rfl,rfl⟩;have c0:=(aa H3).c0;have c1:=(aa H3).c1;have HS:=ab (uh _ (aa H3));go_wp2_with (refine(aa HS).mono ?_;rintro e w ⟨rfl,rfl⟩;unfold aC);exact⟨rfl,fF (aa dT) (aa ao) rfl⟩
    ·have aU:Hid (aj s j=48→m+1≤1):=ab (fun q=>by
      have:¬1≤m:=fun h=>hz ⟨h,q⟩
      omega)
     have hsub:IntKind.u8.wrap ((aj s (j+m):Int) - 48)=((aj s (j+m) - 48:Nat):Int):=by
      rw[IntWalk.u8_in _ (by omega)];omega
     have hdg:aj s (j+m) - 48≤9:=by omega
     generalize aj s (j+m) - 48=dg at *;have hzz:¬j < j+m∨(j < j+m∧aj s j≠48):=by
      rcases cG j (j+m) with h | h
      ·exact .inr ⟨h,fun q=>hz ⟨by omega,q⟩⟩
      ·exact .inl (by omega)
     clear hz hdd;have HKM:Hid (j+m+1=j+(m+1)):=ab (by omega)
     have HCP2:Hid ((kY s j (m+1):Int)=min (10 * (kY s j m:Int)+(dg:Int)) 65537):=ab (by rw[aa HCP];omega)
     clear HCP;generalize kY s j m=n at *;generalize iS:j+m=k at *;have eU:=ab iS;clear iS;rcases hzz with hg | ⟨hg,hz⟩
     ·have mP:¬(j:Int) < (k:Int):=by omega
      go_wp2_with fail;refine(aa HH _ (aa sG)).mono ?_;rintro e w3 ⟨rfl,hb⟩;have ao:=ab ((aa ks).trans (But.of_below hb));have H3:=ab ((aa sG).below hb);clear hb;go_wp2_with fail;refine(aa HD _).mono ?_;rintro e w3 ⟨rfl,rfl⟩;have c0:=(aa H3).c0;have c1:=(aa H3).c1;go_wp2_with fail;refine(aa HH _ (aa H3)).mono ?_;rintro e w4 ⟨rfl,hb⟩;have dD:=ab ((aa ao).trans (But.of_below hb));have H4:=ab ((aa H3).below hb);clear hb c0 c1;have c1:=(aa H4).c1;have fz:=(aa H4).fz 1;go_wp2_with fail;have HR5:=ab ((aa H4).set1 (k+1));exact EO (aa HKM) (aa HCP2) (by have:=aa HKM;omega) (aa HR5) ((aa dD).setCell 1 _) (by rw[aa HSr,aa gQ]) (aa aU) (aa HM) au
     ·have mP:(j:Int) < (k:Int):=by omega
      have hz4:(((s[j]'hjs).toNat:Int)==48)=false:=by rw[aa HJ,nc];omega
      clear hz;go_wp2_with fail;refine(aa HH _ (aa sG)).mono ?_;rintro e w3 ⟨rfl,hb⟩;have ao:=ab ((aa ks).trans (But.of_below hb));have H3:=ab ((aa sG).below hb);clear hb;go_wp2_with fail;refine(aa HD _).mono ?_;rintro e w3 ⟨rfl,rfl⟩;have c0:=(aa H3).c0;have c1:=(aa H3).c1;go_wp2_with fail;refine(aa HH _ (aa H3)).mono ?_;rintro e w4 ⟨rfl,hb⟩;have dD:=ab ((aa ao).trans (But.of_below hb));have H4:=ab ((aa H3).below hb);clear hb c0 c1;have c1:=(aa H4).c1;have fz:=(aa H4).fz 1;go_wp2_with fail;have HR5:=ab ((aa H4).set1 (k+1));exact EO (aa HKM) (aa HCP2) (by have:=aa HKM;omega) (aa HR5) ((aa dD).setCell 1 _) (by rw[aa HSr,aa gQ]) (aa aU) (aa HM) au
open Go.RowKit
theorem F3 (s:ByteArray) (k:Nat) (h:k < s.size):s.data.toList.getD k 0=s[k]'h:=by
 have:k < s.data.toList.length:=by simpa using h
 rw[List.getD,gT this];rfl
theorem DD {w w':World} {z B:Nat} {v:Value} {l:List UInt8} (h:aZ w B v l) (hb:But z w w') (hz:∀c t f,w.heap[z]? =some (.cells c t f)→t≠5):aZ w' B v l:=by
 refine World.ownsRow.kept (row:=some z) h ⟨hb.os,hb.tape,hb.output,hb.size,fun k hk bi=>hb.block k hk fun e=>bi (by rw[e])⟩ ?_
 refine .inr fun e=> ?_
 rcases h.2 with ⟨rfl,_⟩ | ⟨g,cap,cur,rfl,_,vi,_⟩
 ·cases e
 ·have e2:g=z:=by simpa [Value.ownBlock] using e
  subst e2;exact hz _ _ _ vi rfl
theorem KY {w:World} {B:Nat} {v:Value} {l:List UInt8} (ho:aZ w B v l):
  (convert 48 9 v).run prog w=.ok (.string ⟨l.toArray⟩) w:=by
 rcases ho.2 with ⟨rfl,h0⟩ | ⟨g,cap,cur,rfl,_,_,_,_,_,_⟩
 ·have:l=[]:=kG h0
  subst this;exact run_convert_bytes_nil (P:=prog) w 48 5 underlying48 underlying5 0 0 9 underlying9
 ·exact run_convert_bytes_back (P:=prog) w 48 9 5 ⟨g,0,none⟩ cap l underlying48 underlying5 underlying9 (fun j hj=>World.ownsRow.cells ho rfl j _ (by simp only[qb,gT hj,Option.map_some,bc]))
theorem D0 (w:World) (b:UInt8):(((w.alloc (.cells #[.int .u8 (b.toNat:Int)] 5)).drew).drew.drew).cell? ⟨w.heap.size,0,none⟩=some (bc b):=by
 show (w.alloc (.cells #[bc b] 5)).cell? ⟨w.heap.size,0,none⟩=_;rw[eB _ _ _ _ _ _ (ax rfl)];rfl
theorem JM (w:World) (b:UInt8):((w.alloc (.cells #[.int .u8 (b.toNat:Int)] 5)).drew).cell? ⟨w.heap.size,0,none⟩=some (bc b):=D0 w b
theorem EG {W w':World} {z B k:Nat} {s:ByteArray} {o:Int} (h:bQ W z s k o) (hb:Below B W w') (hz:z < B):bQ w' z s k o:=(hb.block z hz).trans h
theorem Fl {w W w':World} {z:Nat} (h:But z w W) (hb:Below w.heap.size W w'):But z w w':=
 ⟨hb.os.trans h.os,hb.tape.trans h.tape,hb.output.trans h.output,bv h.size hb.size,fun k hk hz=>(hb.block k hk).trans (h.block k hk hz)⟩
theorem bQ.ty {w:World} {z k:Nat} {s:ByteArray} {o:Int} (h:bQ w z s k o):∀c t f,w.heap[z]? =some (.cells c t f)→t≠5:=fun c t f q=>by
 rw[h] at q;injection q with q
 injection q with _ q2 _
 rw[←q2];decide
theorem EH {s:ByteArray} {i j k z:Nat} {o:Int} {w w5 wr:World} {v:Value} {L:List UInt8} (hk:k < s.size) (hL:L.length≤k+1)
  (hR:bQ w5 z s k o) (hB:But z w w5) (hY:aZ w5 w.heap.size v L) (hm:kC wr z=j) (hj:j≤k) (hC:cq s (i+1)=cq s (k+1)∧ct s (i+1)=L++ct s (k+1)):
  (∃(k2:Nat) (L:List UInt8),k2≤s.size∧L.length≤k2∧Hid (bQ (w5.setCell ⟨z,1,none⟩ (.int .i64 ((k:Int)+1))) z s k2 o)∧Hid (But z w (w5.setCell ⟨z,1,none⟩ (.int .i64 ((k:Int)+1))))∧Hid (aZ (w5.setCell ⟨z,1,none⟩ (.int .i64 ((k:Int)+1))) w.heap.size v L)∧Hid (cq s (i+1)=cq s k2∧ct s (i+1)=L++ct s k2))∧
  s.size - kC (w5.setCell ⟨z,1,none⟩ (.int .i64 ((k:Int)+1))) z < s.size - kC wr z:=by
 have h1:=hR.set1 (k+1);have h2:=h1.at;have h3:kC (w5.setCell ⟨z,1,none⟩ (.int .i64 ((k:Int)+1))) z=k+1:=h2;exact⟨⟨k+1,L,hk,hL,h1,hB.setCell 1 _,DD hY ((But.refl z w5).setCell 1 _) hR.ty,hC⟩,by rw[h3,hm];omega⟩
theorem CK {s:ByteArray} {i z:Nat} {o:Int} (w:World) (hs:s.size≤65536) (hi:i < s.size) (hR:bQ w z s i o):Calls prog 193 #[.pointer (some ⟨z,0,none⟩)] w fun e w'=>fR lE z s o w (jK s i) e w':=by
 have c1:=hR.c1;have fz:=hR.fz 1;have nL:=ab (hR.set1 (i+1));have aF:=ab ((But.refl z w).setCell 1 (.int .i64 ((i:Int)+1)));have hzl:=hR.lt;clear hR;go_enter func193,ntmps193;go_wp2_with fail;clear c1 fz;go_loopw [3] (fun v wr=>∃(k:Nat) (L:List UInt8),k≤s.size∧L.length≤k∧Hid (bQ wr z s k o)∧Hid (But z w wr)∧Hid (aZ wr w.heap.size v L)∧Hid (cq s (i+1)=cq s k∧ct s (i+1)=L++ct s k)) (fun _ wr=>s.size - kC wr z)
 case atStart=>exact⟨i+1,[],by omega,by simp,aa nL,aa aF,lX _ _ _ _,rfl,rfl⟩
 case round=>
  obtain⟨k,L,hk,hLk,HR,HB,HY,HC⟩:=hrel;have c0:=(aa HR).c0;have c1:=(aa HR).c1;have fz:=(aa HR).fz 1;have HM:=ab (aa HR).at;rcases cG k s.size with au | gD
  ·have hg:(k:Int) < (s.size:Int):=by omega
   have HG:=ab (F3 s k au);have rF:=ab (mw s k au)
   by_cases gm:aj s k=39
   ·have hb39:(((s[k]'au).toNat:Int)==39)=true:=by rw[aa rF,gm];rfl
    have dU:Hid (bQ ((wr.drew.drew).setCell ⟨z,1,none⟩ (.int .i64 ((k+1:Nat):Int))) z s (k+1) o):=ab (((aa HR).below ((aV _ _).drew.drew)).set1 (k+1));have aX:Hid (But z w ((wr.drew.drew).setCell ⟨z,1,none⟩ (.int .i64 ((k+1:Nat):Int)))):=ab (((aa HB).trans (But.of_below (aV _ _).drew.drew)).setCell 1 _);have HY1:Hid (aZ ((wr.drew.drew).setCell ⟨z,1,none⟩ (.int .i64 ((k+1:Nat):Int))) w.heap.size _ L):=ab (DD ((aa HY).later (aV _ _).drew.drew) ((But.refl z _).setCell 1 _) ((aa HR).below ((aV _ _).drew.drew)).ty);have HH:=ab (fun w h=>zD (z:=z) (o:=o) (s:=s) (i:=k+1) w hs (by omega) h)
    by_cases ie:aj s (k+1)=39
    ·have uU:k+1 < s.size:=mv (by omega)
     have qA:=ab (F3 s (k+1) uU);have HBA2:=ab (mw s (k+1) uU);have lR:Hid (cq s (i+1)=cq s (k+1+1)∧ct s (i+1)=(L++[s[k+1]'uU])++ct s (k+1+1)):=ab (by
      have e39:s[k+1]'uU=39:=by
       have h:=aa HBA2;rw[ie] at h;exact tp.1 h
      rw[(aa HC).1,(aa HC).2,yr gm ie,yq gm ie,e39,fT];exact⟨rfl,rfl⟩)
     rw[ie] at HH;clear gm ie;go_wp2_with fail;go_region;go_wp2_with fail;go_region;go_wp2_with fail;refine(aa HH _ (aa dU)).mono ?_;rintro e w3 ⟨rfl,hb⟩;have ao:=ab ((aa aX).trans (But.of_below hb));have H3:=ab ((aa dU).below hb);have HY3:=ab ((aa HY1).later hb);clear hb c0 c1 fz dU aX HY1;have c0:=(aa H3).c0;have c1:=(aa H3).c1;have fz:=(aa H3).fz 1;have ay:=(aa ao).size;have eS:((k+1:Nat):Int) < (s.size:Int):=by omega
     have eq:Hid (((k:Int)+1)=((k+1:Nat):Int)):=ab (by omega)
     generalize k+1=k2 at *;go_wp2_with fail;go_region_law (refine Di rfl _ _ rfl w.heap.size _ L (s[k2]'uU) w3.heap.size rfl rfl ((aa HY3).later (((ba _).drew))) (JM w3 (s[k2]'uU)) (by simp;omega) (by omega) ?_;intro v' w' rh bz Cv)
     all_goals (
      have H5:=ab (EG ((aa H3).below (((ba _).drew))) bz hzl);have dJ:=ab (Fl ((aa ao).trans (But.of_below (((ba _).drew)))) bz);have HY5:=ab rh;clear rh bz Cv c0 c1 fz;have c1:=(aa H5).c1;have fz:=(aa H5).fz 1;go_wp2_with fail;exact EH uU (by have h:=aa eq;simp;omega) (aa H5) (aa dJ) (aa HY5) (aa HM) (by have h:=aa eq;omega) (aa lR))
    ·have lR:Hid (cq s (i+1)=k∧ct s (i+1)=L):=ab (by
      rw[(aa HC).1,(aa HC).2,yf gm ie,yd gm ie,lf];exact⟨rfl,rfl⟩)
     have HQ:Hid (jK s i=.ok (⟨L.toArray⟩,k+1)):=ab (by
      unfold jK;rw[(aa lR).1,(aa lR).2,af au])
     have bi:(((aj s (k+1):Nat):Int)==39)=false:=bn;clear gm ie;go_wp2_with fail;go_region;go_wp2_with fail;go_region;go_wp2_with fail;refine(aa HH _ (aa dU)).mono ?_;rintro e w3 ⟨rfl,hb⟩;have ao:=ab ((aa aX).trans (But.of_below hb));have H3:=ab ((aa dU).below hb);have hout:=KY ((aa HY1).later hb);clear hb c0 c1 fz dU aX HY1;go_wp2_with fail;go_ret;exact lA (aa HQ) (aa ao) rfl (aa H3)
   ·have hb39:(((s[k]'au).toNat:Int)==39)=false:=by rw[aa rF,nc];omega
    have lR:Hid (cq s (i+1)=cq s (k+1)∧ct s (i+1)=(L++[s[k]'au])++ct s (k+1)):=ab (by
     rw[(aa HC).1,(aa HC).2,xW au gm,xV au gm,aa HG,fT];exact⟨rfl,rfl⟩)
    clear gm;go_wp2_with fail;go_region;go_wp2_with fail;go_region;go_wp2_with fail;have ay:=(aa HB).size;go_region_law (refine Di rfl _ _ rfl w.heap.size _ L (s[k]'au) wr.heap.size rfl rfl ((aa HY).later ((((ba _).drew).drew).drew)) (D0 wr (s[k]'au)) (by simp;omega) (by omega) ?_;intro v' w' rh bz Cv)
    all_goals (
     have H5:=ab (EG ((aa HR).below (((ba _).drew).drew.drew)) bz hzl);have dJ:=ab (Fl ((aa HB).trans (But.of_below (((ba _).drew).drew.drew))) bz);have HY5:=ab rh;clear rh bz Cv c0 c1 fz;have c1:=(aa H5).c1;have fz:=(aa H5).fz 1;go_wp2_with fail;exact EH au (by simp;omega) (aa H5) (aa dJ) (aa HY5) (aa HM) (aw _) (aa lR))
  ·obtain rfl:k=s.size:=by omega
   have hg:¬(s.size:Int) < (s.size:Int):=by omega
   have HQ:Hid (jK s i=.error (2,s.size)):=ab (by
    unfold jK;rw[(aa HC).1,ys (aw _),ac (by omega)])
   have fc:=ab (fun w h=>uh (z:=z) (s:=s) (i:=s.size) (o:=o) w h)
   go_wp2_with fail;go_region;go_wp2_with (refine(aa fc _ ((aa HR).below (aV _ _).drew)).mono ?_;rintro e w ⟨rfl,rfl⟩;unfold aC);exact⟨rfl,fF (aa HQ) ((aa HB).trans (But.of_below (aV _ _).drew)) rfl⟩
open Go.RowKit
theorem I5 {s:ByteArray} {i z:Nat} {o:Int} (w:World) (hs:s.size≤65536) (hi:i≤s.size) (hR:bQ w z s i o):Calls prog 203 #[.pointer (some ⟨z,0,none⟩)] w fun e w'=>fR lE z s o w (mE s i) e w':=by
 have pb:=eG s i hi;have HN:=ab (sU w hs hi hR);have HQ:=ab (fun w (q:sk s i < s.size) h=>CK (z:=z) (o:=o) w hs q h)
 unfold mE;clear hR
 by_cases h1:nx s i=39
 ·have au:=kW (s:=s) (i:=i) (by omega)
  rw[af h1];have aU:=ab (fun w h=>aa HQ w au h)
  clear HQ;rw[h1] at HN;clear h1 au;obtain⟨R,hq⟩:∃R,jK s (sk s i)=R:=⟨_,rfl⟩;rw[hq] at aU ⊢;clear hq;generalize sk s i=k at *;rcases R with ⟨er,at'⟩ | ⟨t,j⟩
  ·show Calls _ _ _ _ fun e w'=>fR lE z s o w (.error (er,at')) e w'
   go_enter func203,ntmps203;go_wp2_with fail;refine(aa HN).mono ?_;rintro e w2 ⟨rfl,hb,cX⟩;have HB:=ab hb;have H2:=ab cX;have c1:=cX.c1;clear hb cX;go_wp2_with (refine(aa aU _ (aa H2)).mono ?_;intro e w3 hP;obtain⟨hb3,rfl⟩:=jW hP rfl;clear hP;have ao:=ab ((aa HB).trans hb3);clear hb3;unfold aC);exact⟨rfl,fF rfl (aa ao) rfl⟩
  ·by_cases ht:t.size=0
   ·rw[dw,af ht]
    have he:=AM t ht;have HT:=ab (fun w=>wN 8 k w)
    clear ht;go_enter func203,ntmps203;go_wp2_with fail;refine(aa HN).mono ?_;rintro e w2 ⟨rfl,hb,cX⟩;have HB:=ab hb;have H2:=ab cX;have c1:=cX.c1;clear hb cX;go_wp2_with fail;refine(aa aU _ (aa H2)).mono ?_;intro e w3 hP;obtain⟨hb3,hv,hR3⟩:=js hP rfl;unfold lE at hv;subst hv;have ao:=ab ((aa HB).trans hb3);clear hb3 hP hR3 c1;go_wp2_with (refine(aa HT _).mono ?_;rintro e w ⟨rfl,rfl⟩;unfold aC);exact⟨rfl,fF rfl (aa ao) rfl⟩
   ·rw[dw,ac ht]
    have he:=xG t ht;clear ht;go_enter func203,ntmps203;go_wp2_with fail;refine(aa HN).mono ?_;rintro e w2 ⟨rfl,hb,cX⟩;have HB:=ab hb;have H2:=ab cX;have c1:=cX.c1;clear hb cX;go_wp2_with fail;refine(aa aU _ (aa H2)).mono ?_;intro e w3 hP;obtain⟨hb3,hv,hR3⟩:=js hP rfl;unfold lE at hv;subst hv;have ao:=ab ((aa HB).trans hb3);have H3:=ab hR3;clear hb3 hP hR3 c1;go_wp2_with fail;go_ret;exact lA rfl (aa ao) rfl (aa H3)
 ·rw[ac h1]
  have bi:((nx s i:Int)==39)=false:=bn;clear h1 HQ;generalize sk s i=k at *;generalize nx s i=b at *;go_enter func203,ntmps203;go_wp2_with fail;refine(aa HN).mono ?_;rintro e w2 ⟨rfl,hb,cX⟩;have HB:=ab hb;have HS:=ab (uh w2 cX);clear hb cX;go_wp2_with (refine(aa HS).mono ?_;rintro e w ⟨rfl,rfl⟩;unfold aC);exact⟨rfl,fF rfl (aa HB) rfl⟩
theorem EY (t:ByteArray):∀n,pT t n≤n
 | 0=>aw _
 | n+1=>by
  rw[pT];have:=EY t n;split
  ·omega
  ·split <;> omega
theorem C4 (t:ByteArray) {m:Nat} (h:pT t m≠0):∀n,m≤n→pT t n=pT t m
 | 0,hn=>by rw[show m=0 by omega]
 | n+1,hn=>by
  rcases cG m (n+1) with q | q
  ·have ih:=C4 t h n (by omega)
   rw[pT,ih,af h]
  ·rw[show m=n+1 by omega]
theorem xM (t:ByteArray) (w:World) (hS:dA w):Calls prog 201 #[.string t] w fun e w'=>e=.returned (.int .i64 (kz t:Int))∧w'=w:=by
 have HS:=ab hS;clear hS;obtain⟨K,hK⟩:∃K,kz t=K:=⟨_,rfl⟩;rw[hK];have HKW:=ab hK;clear hK;obtain⟨f,hf⟩:∃f,f=pT t:=⟨_,rfl⟩;have HF:=ab hf;clear hf;have ii:Hid (f 0=0):=ab (by rw[aa HF];rfl)
 go_enter func201,ntmps201;go_wp2_with fail;go_loop [3] (fun v=>∃n:Nat,n≤24∧v=.int .i64 ((n:Int)+1)∧Hid (f n=0)) (fun v=>25 - (intOf v).toNat)
 case atStart=>exact⟨0,by omega,rfl,aa ii⟩
 case round=>
  obtain⟨n,hn,rfl,HZ⟩:=hrel;rcases cG n 24 with au | gD
  ·have hg:((n:Int)+1)≤24:=by omega
   obtain⟨a, -, -, -⟩:=aa HS (n+1) (by omega) (by omega)
   have HK:Hid (f (n+1)=if aT (n+1)=t then n+1 else 0):=ab (by rw[aa HF,pT,ac (by rw[←aa HF,aa HZ];simp)])
   have HW:=ab (fun (q:f (n+1)≠0)=>(show K=f (n+1) by rw[←aa HKW,aa HF];rw[aa HF] at q;exact C4 t q 24 (by omega)))
   by_cases hw:aT (n+1)=t
   ·have eq:Hid (K=n+1):=ab (by
     have h1:f (n+1)=n+1:=by rw[aa HK,af hw]
     rw[aa HW (by rw[h1];omega),h1])
    rw[hw] at a;have he:(t.toList==t.toList)=true:=by simp
    clear hw HK HW;go_wp2_with fail;go_ret;exact⟨by rw[aa eq];rfl,rfl⟩
   ·have eq:Hid (f (n+1)=0):=ab (by rw[aa HK,ac hw])
    have he:((aT (n+1)).toList==t.toList)=false:=by
     rw[nc];intro e;apply hw;rw[lW,lW] at e;exact ByteArray.ext (Array.toList_inj.1 e)
    clear hw HK HW;generalize aT (n+1)=W at *;go_wp2_with fail;exact⟨⟨n+1,by omega,by simp,aa eq⟩,by simp[intOf];omega⟩
  ·have HN:Hid (n=24):=ab (by omega)
   have hg:¬((n:Int)+1)≤24:=by omega
   have HK0:Hid (K=0):=ab (by rw[←aa HKW,show kz t=pT t 24 from rfl,←aa HF,←aa HN];exact aa HZ)
   go_wp2_with fail;go_ret;exact⟨by rw[aa HK0];rfl,rfl⟩
theorem I4 (b:Nat) (w:World):Calls prog 189 #[.int .u8 (b:Int)] w fun e w'=>e=.returned (.int .i64 (jc b:Int))∧w'=w:=by
 unfold jc
 by_cases h1:b=46
 ·subst h1
  rw[af rfl];go_enter func189,ntmps189;go_wp2;go_ret;exact⟨rfl,rfl⟩
 ·rw[ac h1]
  have e1:((b:Int)==46)=false:=bn
  by_cases h2:b=36
  ·subst h2
   rw[af rfl];go_enter func189,ntmps189;go_wp2;go_ret;exact⟨rfl,rfl⟩
  ·rw[ac h2]
   have e2:((b:Int)==36)=false:=bn;clear h1 h2;go_enter func189,ntmps189;go_wp2;go_ret;exact⟨rfl,rfl⟩
theorem Jb (b:Nat) (hb:b < 256) (w:World):Calls prog 184 #[.int .u8 (b:Int)] w fun e w'=>e=.returned (.bool (kB b))∧w'=w:=by
 have HL:=ab (sP b hb w);unfold kB;generalize dj b=x at *;have k1:((b:Int)==39)=decide (b=39):=by rw[uP];simp;omega
 have k2:((b:Int)==40)=decide (b=40):=by rw[uP];simp;omega
 have k3:((b:Int)==64)=decide (b=64):=by rw[uP];simp;omega
 have k4:((b:Int)==42)=decide (b=42):=by rw[uP];simp;omega
 cases x
 ·generalize decide (b=39)=d1 at *
  generalize decide (b=40)=d2 at *;generalize decide (b=64)=d3 at *;generalize decide (b=42)=d4 at *
  cases d1 <;> cases d2 <;> cases d3 <;> cases d4 <;> (
   go_enter func184,ntmps184;go_wp2_with (refine(aa HL).mono ?_;rintro e w ⟨rfl,rfl⟩);go_ret;exact⟨rfl,rfl⟩)
 ·go_enter func184,ntmps184
  go_wp2_with (refine(aa HL).mono ?_;rintro e w ⟨rfl,rfl⟩);go_ret;exact⟨rfl,rfl⟩
open Go.RowKit
theorem ee {w:World} {z:Nat} {v0 v1 v2 v3 v4:Value} (h:w.heap[z]? =some (.cells #[v0,v1,v2,v3,v4] 27 (0,0))):
  w.cell? ⟨z,0,none⟩=some v0∧w.cell? ⟨z,1,none⟩=some v1∧w.cell? ⟨z,2,none⟩=some v2∧w.cell? ⟨z,3,none⟩=some v3∧w.cell? ⟨z,4,none⟩=some v4:=by
 refine⟨?_, ?_, ?_, ?_, ?_⟩ <;> (rw[eB _ _ _ _ _ _ h];rfl)
def ai (T:PT):Array Value:= #[.int .i64 T.k,.string T.t,.int .i64 T.n,.string T.nm,.slice T.xa T.len T.cap]
def aB:Array Value:= #[.int .i64 0,.string ⟨#[]⟩,.int .i64 0,.string ⟨#[]⟩,.slice none 0 0]
theorem gZ (T:PT):(ai T).all (·.oneCell')=true:=by simp[ai,Value.oneCell']
def eH (T:PT):List Value:=[.int .i64 T.k,.string T.t,.int .i64 T.n,.string T.nm,.slice T.xa T.len T.cap]
theorem iX (T:PT):(eH T).length=5:=rfl
theorem nU (T:PT):∀u ∈ eH T,u.oneCell'=true:=by
 intro u hu;simp only[eH,dO,eg,fN] at hu;rcases hu with rfl | rfl | rfl | rfl | rfl <;> rfl
theorem vT:(prog.info? 27).map (fun i=>(i.zero,i.size,i.bytes))=some (some (.agg aB),5,72):=by kernel_rfl
theorem DP {w:World} {B g cap i:Nat} {v:Value} {l:List PT} {x:PT} (h:bP w B 27 5 eH v l) (hv:v=.slice (some ⟨g,0,none⟩) l.length cap) (hx:l[i]? =some x):
  w.cell? ⟨g,i * 5,none⟩=some (.int .i64 x.k)∧w.cell? ⟨g,i * 5+1,none⟩=some (.string x.t)∧w.cell? ⟨g,i * 5+2,none⟩=some (.int .i64 x.n)∧w.cell? ⟨g,i * 5+3,none⟩=some (.string x.nm)∧w.cell? ⟨g,i * 5+4,none⟩=some (.slice x.xa x.len x.cap):=
 ⟨h.cell iX hv hx (k:=0) rfl,h.cell iX hv hx (k:=1) rfl,h.cell iX hv hx (k:=2) rfl,h.cell iX hv hx (k:=3) rfl,h.cell iX hv hx (k:=4) rfl⟩
def fS (k:Int) (nm:ByteArray) (g cap:Nat) (L:List PT):PT:=⟨k,⟨#[]⟩,0,nm,some ⟨g,0,none⟩,g,0,L.length,cap,fun i=>L[i]⟩
theorem KI (k:Int) (nm:ByteArray) (g cap:Nat) (L:List PT):(fS k nm g cap L).lst=L:=by unfold PT.lst fS;exact List.ofFn_getElem
theorem wS (k:Int) (nm:ByteArray) (g cap:Nat) (L:List PT):(fS k nm g cap L).can=aP k ⟨#[]⟩ 0 nm (L.map PT.can):=by
 rw[PT.can_eq,KI];rfl
theorem By {w:World} {B k' g cap:Nat} {L:List PT} {nm:ByteArray} (h:bP w B 27 5 eH (.slice (some ⟨g,0,none⟩) L.length cap) L) (hL:∀x ∈ L,x.In w) (k:Int) (hk:k=(k':Int)) (hk':k'≤100) (hn:nm.size≤65536):(fS k nm g cap L).In w:=by
 have hf:=h.max;have eN:L.length≤cap:=by
  obtain⟨a,c,e, -,hc⟩:=h.len;injection e with _ _ e3
  omega
 refine⟨by rw[hk];constructor <;> omega,by unfold maxLen;decide,by decide,by unfold maxLen;omega,hf,eN,fun _=>rfl,fun i=> ?_⟩
 obtain⟨x0,x1,x2,x3,x4⟩:=DP h rfl (i:=i.val) (x:=L[i]) (gT i.isLt);simp only[ni];exact⟨⟨x0,x1,x2,x3,x4⟩,hL _ (uL i.isLt)⟩
def bf (B:Nat) (w:World) (U:PT):Prop:=∀X:World,(∀i,B≤i→i < w.heap.size→X.heap[i]? =w.heap[i]?)→U.In X
def fX (B:Nat) (g:Option Nat) (w:World) (U:PT):Prop:=∀X:World,(∀i,B≤i→i < w.heap.size→some i≠g→X.heap[i]? =w.heap[i]?)→U.In X
theorem bf.here {B:Nat} {w:World} {U:PT} (h:bf B w U):U.In w:=h w fun _ _ _=>rfl
theorem bf.step {B:Nat} {w w':World} {U:PT} (h:bf B w U) (hs:w.heap.size≤w'.heap.size) (hb:∀i,B≤i→i < w.heap.size→w'.heap[i]? =w.heap[i]?):bf B w' U:=
 fun X hX=>h X fun i h1 h2=>(hX i h1 (by omega)).trans (hb i h1 h2)
theorem bf.mono {B C:Nat} {w:World} {U:PT} (h:bf C w U) (hc:B≤C):bf B w U:=fun X hX=>h X fun i h1 h2=>hX i (by omega) h2
theorem bf.below {B:Nat} {w w':World} {U:PT} (h:bf B w U) (hb:Below w.heap.size w w'):bf B w' U:=h.step hb.size fun i _ h2=>hb.block i h2
theorem bf.but {B z:Nat} {w w':World} {U:PT} (h:bf B w U) (hb:But z w w') (hz:z < B):bf B w' U:=h.step hb.size fun i h1 h2=>hb.block i h2 (by omega)
theorem bf.setRow {B g:Nat} {w:World} {U:PT} (h:bf B w U) (hg:g < B) (cs:Array Value):bf B (w.setRow g cs) U:=h.step (by simp) fun i h1 _=>eZ w g i cs (by omega)
theorem bf.except {B C:Nat} {g:Option Nat} {w:World} {U:PT} (h:bf C w U) (hc:B≤C) (hg:∀i,g=some i→i < C):fX B g w U:=fun X hX=>h X fun i h1 h2=>hX i (by omega) h2 fun e=>by have:=hg i e.symm;omega
theorem fX.step {B:Nat} {g:Option Nat} {w w':World} {U:PT} (h:fX B g w U) (hs:w.heap.size≤w'.heap.size) (hb:∀i,B≤i→i < w.heap.size→some i≠g→w'.heap[i]? =w.heap[i]?):fX B g w' U:=
 fun X hX=>h X fun i h1 h2 h3=>(hX i h1 (by omega) h3).trans (hb i h1 h2 h3)
theorem fX.below {B:Nat} {g:Option Nat} {w w':World} {U:PT} (h:fX B g w U) (hb:Below w.heap.size w w'):fX B g w' U:=h.step hb.size fun i _ h2 _=>hb.block i h2
theorem fX.but {B z:Nat} {g:Option Nat} {w w':World} {U:PT} (h:fX B g w U) (hb:But z w w') (hz:z < B):fX B g w' U:=h.step hb.size fun i h1 h2 _=>hb.block i h2 (by omega)
theorem fX.lies {B:Nat} {g:Option Nat} {w:World} {U:PT} (h:fX B g w U):bf B w U:=fun X hX=>h X fun i h1 h2 _=>hX i h1 h2
theorem fX.grown {B:Nat} {g g':Option Nat} {w w':World} {U:PT} (h:fX B g w U) (hg:w.grownBy w' g) (hn:g'=g∨g'=some w.heap.size):fX B g' w' U:=fun X hX=>h X fun i h1 h2 h3=>by
 refine(hX i h1 (gL h2 hg.size) ?_).trans (hg.block i h2 h3);rcases hn with rfl | rfl
 ·exact h3
 ·intro e;injection e with e;omega
theorem sT {B:Nat} {w:World} {k n:Int} {t nm:ByteArray} (hk:0≤k∧k≤100) (hn:0≤n∧n≤100000) (ht:t.size≤65536) (hm:nm.size≤65536):bf B w (aP k t n nm []):=fun X _=>
 ⟨by constructor <;> omega,by unfold maxLen;omega,by constructor <;> omega,by unfold maxLen;omega,by unfold maxLen;decide,aw _,fun h=>absurd h (wu _),fun i=>i.elim0⟩
theorem pL (k n:Int) (t nm:ByteArray):(aP k t n nm []).can=aP k t n nm []:=by rw[PT.can_eq,zO];rfl
def eW (B:Nat) (p:PT) (e:Ending) (w:World):Prop:=∃U:PT,e=.returned (pv U)∧U.can=p∧bf B w U
structure KidsL (B:Nat) (w:World) (v:Value) (L:List PT) (l:List PT):Prop where
 row:bP w B 27 5 eH v L
 can:L.map PT.can=l
 lies:∀x ∈ L,fX B v.ownBlock w x
def An (k:Int) (v:Value) (L:List PT) (U:PT):Prop:=(∃x,L=[x]∧U=x)∨(2≤L.length∧∃g cap,v=.slice (some ⟨g,0,none⟩) L.length cap∧U=fS k ⟨#[]⟩ g cap L)
theorem DH {k:Int} {v:Value} {L:List PT} {U:PT} (h:An k v L U):U.can=iB k (L.map PT.can):=by
 rcases h with ⟨x,rfl,rfl⟩ | ⟨h,g,cap, -,rfl⟩
 ·rfl
 ·rw[wS]
  match L,h with
  | _::_::_,_=>rfl
theorem Df {k' B:Nat} {v:Value} {L l:List PT} {U:PT} {w:World} (hk:k'≤100) (h:An (k':Int) v L U) (hK:KidsL B w v L l):bf B w U:=by
 rcases h with ⟨x,rfl,rfl⟩ | ⟨h,g,cap,rfl,rfl⟩
 ·exact(hK.lies U (by simp)).lies
 ·intro X hX
  have lg:=hK.row.low (k:=g) rfl;have hr:bP X B 27 5 eH (.slice (some ⟨g,0,none⟩) L.length cap) L:=hK.row.same fun k hk=>by
   have:k=g:=by simpa [Value.ownBlock] using hk.symm
   subst this;exact hX k lg.1 lg.2
  exact By hr (fun x hx=>(hK.lies x hx).lies X hX) (k':Int) rfl hk (by decide)
theorem CI (k:Nat) (v:Value) (L:List PT) (B:Nat) (w:World) (hr:bP w B 27 5 eH v L) (hL:L≠[]):
  Calls prog 178 #[.int .i64 (k:Int),v] w fun e w'=>(∃U,e=.returned (pv U)∧An (k:Int) v L U)∧Below w.heap.size w w':=by
 have hb2:Below w.heap.size w (w.alloc (.cells aB 27)):=ba _;have hz:(w.alloc (.cells aB 27)).heap[w.heap.size]? =some (.cells aB 27 (0,0)):=ax rfl;have HZ:=ab (And.intro hz hb2)
 match L,hr,hL with
 | [],_,hL=>exact absurd rfl hL
 | [x],hr,_=>
  obtain⟨g,cap,rfl, -, -⟩:=hr.form (by simp)
  obtain⟨x0,x1,x2,x3,x4⟩:=DP (hr.later hb2) rfl (i:=0) (x:=x) rfl;have jA:=MU (g:=g) (cap:=cap) (i:=0) (n:=1) underlying25 dE (by decide)
  simp only[Nat.zero_mul,ni] at x0 x1 x2 x3 x4;unfold aB at x0 x1 x2 x3 x4;clear hr hz hb2;go_enter func178,ntmps178;go_wp2_with (first
   | (refine bh rfl 27 _ _ rfl w.heap.size (ai x) rfl rfl 27 aB (aa HZ).1 dE rfl (gZ x) ?_)
   | fail)
  (try simp only[Exit.inBlock,Exit.then])
  exact bK (dM rfl _ _ w.heap.size 27 (ai x) (0,0) _ rfl (bW _ _ _ _ _ _ (aa HZ).1) underlying27 rfl dE) rfl ⟨⟨x,rfl,.inl ⟨x,rfl,rfl⟩⟩,ed (aa HZ).2 _ (by omega) _⟩
 | x::y::L',hr,_=>
  obtain⟨g,cap,rfl, -, -⟩:=hr.form (by simp)
  have hm:=hr.max;unfold maxLen at hm;obtain⟨n,j7⟩:∃n,n=(x::y::L').length:=⟨_,rfl⟩;have gD:2≤n:=by rw[j7];simp
  have HU:Hid (An (k:Int) (.slice (some ⟨g,0,none⟩) n cap) (x::y::L') (fS (k:Int) ⟨#[]⟩ g cap (x::y::L'))):=ab (.inr ⟨by simp,g,cap,by rw[j7],rfl⟩)
  have HPV:Hid (pv (fS (k:Int) ⟨#[]⟩ g cap (x::y::L'))=.agg #[.int .i64 (k:Int),.string ⟨#[]⟩,.int .i64 0,.string ⟨#[]⟩,.slice (some ⟨g,0,none⟩) n cap]):=ab (by rw[j7];rfl)
  rw[←j7] at hm ⊢;have q1:((n:Int)==1)=false:=bn;clear hr hz hb2 j7;generalize fS (k:Int) ⟨#[]⟩ g cap (x::y::L')=U at *;go_enter func178,ntmps178;go_wp2_with (first
   | (refine bh rfl 27 _ _ rfl w.heap.size #[.int .i64 (k:Int),.string ⟨#[]⟩,.int .i64 0,.string ⟨#[]⟩,.slice (some ⟨g,0,none⟩) n cap] rfl rfl 27 aB (aa HZ).1 dE rfl (by simp[Value.oneCell']) ?_)
   | fail)
  (try simp only[Exit.inBlock,Exit.then])
  exact bK (dM rfl _ _ w.heap.size 27 #[.int .i64 (k:Int),.string ⟨#[]⟩,.int .i64 0,.string ⟨#[]⟩,.slice (some ⟨g,0,none⟩) n cap] (0,0) _ rfl (bW _ _ _ _ _ _ (aa HZ).1) underlying27 rfl dE) rfl ⟨⟨U,by rw[aa HPV],aa HU⟩,ed (aa HZ).2 _ (by omega) _⟩
end Go.Proofs.YtlmnjbipfacniaaGreatDoor
