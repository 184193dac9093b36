/- The reader of patterns: its small functions. The reader of p -/
import Derived.Test.YtlmnjbipfacniaaGreatDoorRowBaseM
import Derived.Test.YtlmnjbipfacniaaGreatDoorLxPlainM
import Derived.Test.YtlmnjbipfacniaaGreatDoorClone4M
import Derived.Recover
import Derived.Deep.RegionLaw
set_option maxRecDepth 100000
set_option maxHeartbeats 4000000
namespace Go.Proofs.YtlmnjbipfacniaaGreatDoor
open Go.Proofs.Tryz
open Go.RowKit
def du (er:Int) (i:Nat):Value:=.agg #[.int .i64 er,.int .i64 (i:Int)]
def aC (er:Int) (i:Nat):Ending:=.panicked [{v:=.iface 36 (du er i),recovered:=false}]
def bR (w:World) (z:Nat) (s:ByteArray) (i:Nat) (o:Int):Prop:=w.heap[z]? =some (.cells #[.string s,.int .i64 (i:Int),.int .i64 o] 198 (0,0))
theorem bR.c0 {w:World} {z:Nat} {s:ByteArray} {i:Nat} {o:Int} (h:bR w z s i o):w.cell? ⟨z,0,none⟩=some (.string s):=cr h
theorem bR.c1 {w:World} {z:Nat} {s:ByteArray} {i:Nat} {o:Int} (h:bR w z s i o):w.cell? ⟨z,1,none⟩=some (.int .i64 (i:Int)):=cr h
theorem bR.c2 {w:World} {z:Nat} {s:ByteArray} {i:Nat} {o:Int} (h:bR w z s i o):w.cell? ⟨z,2,none⟩=some (.int .i64 o):=cr h
theorem bR.fz {w:World} {z:Nat} {s:ByteArray} {i:Nat} {o:Int} (h:bR w z s i o) (k:Nat):w.frozen? ⟨z,k,none⟩=false:=cT w z k _ _ h
theorem bR.set1 {w:World} {z:Nat} {s:ByteArray} {i:Nat} {o:Int} (h:bR w z s i o) (j:Nat):bR (w.setCell ⟨z,1,none⟩ (.int .i64 (j:Int))) z s j o:=fK w z 1 _ _ _ h
theorem bR.set2 {w:World} {z:Nat} {s:ByteArray} {i:Nat} {o:Int} (h:bR w z s i o) (p:Int):bR (w.setCell ⟨z,2,none⟩ (.int .i64 p)) z s i p:=fK w z 2 _ _ _ h
theorem bR.below {w w':World} {z:Nat} {s:ByteArray} {i:Nat} {o:Int} (h:bR w z s i o) (hb:Below w.heap.size w w'):bR w' z s i o:=am h hb
theorem bR.lt {w:World} {z:Nat} {s:ByteArray} {i:Nat} {o:Int} (h:bR w z s i o):z < w.heap.size:=(bC.1 h).1
theorem wK (er:Int) (i:Nat) (w:World):Calls prog 179 #[.int .i64 er,.int .i64 (i:Int)] w fun e w'=>e=aC er i∧w'=w:=by
 go_enter func179,ntmps179;go_wp2;exact⟨rfl,rfl,rfl⟩
theorem uq {s:ByteArray} {i z:Nat} {o:Int} (w:World) (hR:bR w z s i o):Calls prog 167 #[.pointer (some ⟨z,0,none⟩)] w fun e w'=>e=aC 2 i∧w'=w:=by
 have c1:=hR.c1;have HC:=ab (fun w=>wK 2 i w)
 clear hR;go_enter func167,ntmps167;go_wp2_with (refine(aa HC _).mono ?_;rintro e w ⟨rfl,rfl⟩;unfold aC);exact⟨rfl,rfl,rfl⟩
theorem zJ {s:ByteArray} {i z:Nat} {o:Int} (w:World) (_hs:s.size≤65536) (hi:i≤s.size) (hR:bR w z s i o):Calls prog 185 #[.pointer (some ⟨z,0,none⟩)] w fun e w'=>e=.returned (.int .u8 (aj s i:Int))∧Below w.heap.size w w':=by
 have c0:=hR.c0;have c1:=hR.c1;clear hR;have hd:w.drew.cell? ⟨z,0,none⟩=w.cell? ⟨z,0,none⟩:=rfl;rcases cX i s.size with h | h
 ·have h1:((i:Int)==(s.size:Int))=false:=bn
  have hb:=mY s i h;go_enter func185,ntmps185;go_wp2_with fail;go_region;go_wp2_with fail;go_region;go_wp2_with fail;go_ret;exact⟨rfl,((aW _ _).drew).drew⟩
 ·obtain rfl:i=s.size:=by omega
  have h1:((s.size:Int)==(s.size:Int))=true:=by rw[tp]
  have hb:aj s s.size=0:=pz s _ h;rw[hb];go_enter func185,ntmps185;go_wp2_with fail;go_region;go_wp2_with fail;go_ret;exact⟨rfl,(aW _ _).drew⟩
def kI (w:World) (z:Nat):Nat:=match w.cell? ⟨z,1,none⟩ with | some (.int _ n)=>n.toNat | _=>0
theorem bR.at {w:World} {z:Nat} {s:ByteArray} {i:Nat} {o:Int} (h:bR w z s i o):kI w z=i:=by unfold kI;rw[h.c1];simp
theorem sL {s:ByteArray} {i z:Nat} {o:Int} (w:World) (hs:s.size≤65536) (hi:i≤s.size) (hR:bR w z s i o):Calls prog 177 #[.pointer (some ⟨z,0,none⟩)] w fun e w'=>e=.returned (.int .u8 (nx s i:Int))∧But z w w'∧bR w' z s (sk s i) o:=by
 have nD:=ab hR;clear hR;go_enter func177,ntmps177;go_wp2_with fail;go_loopw [] (fun wr=>∃k:Nat,k≤s.size∧Hid (bR wr z s k o)∧Hid (But z w wr)∧Hid (sk s i=sk s k)) (fun wr=>s.size - kI wr z)
 case atStart=>exact⟨i,hi,aa nD,But.refl _ _,rfl⟩
 case round=>
  obtain⟨k,hk,HR,HB,HS⟩:=hrel;have HH:=ab (fun w h=>zJ (z:=z) (o:=o) w hs hk h)
  have HM:=ab (aa HR).at
  by_cases jd:aj s k=32
  ·have au:k < s.size:=mx (by omega)
   have fo:Hid (sk s k=sk s (k+1)):=ab (nJ au (eW jd));rw[jd] at HH;clear jd;go_wp2_with fail;refine(aa HH _ (aa HR)).mono ?_;rintro e w2 ⟨rfl,hb⟩;have db:=(aa HR).below hb;have c1:=db.c1;have fz:=db.fz 1;have H2:=ab db;have aF:=ab ((aa HB).trans (But.of_below hb));clear db hb;go_wp2_with fail;have qb:=ab ((aa H2).set1 (k+1));exact⟨⟨k+1,by omega,aa qb,(aa aF).setCell 1 _,by rw[aa HS,aa fo];rfl⟩,by have h1:=aa HM;have h2:=(aa qb).at;simp only[Int.natCast_add,Int.cast_ofNat_Int] at h2;rw[h1];omega⟩
  ·have fo:=ab (ji jd)
   have bo:((aj s k:Int)==32)=false:=bn;clear jd;go_wp2_with fail;refine(aa HH _ (aa HR)).mono ?_;rintro e w2 ⟨rfl,hb⟩;have H2:=ab ((aa HR).below hb);have aF:=ab ((aa HB).trans (But.of_below hb));clear hb;go_wp2_with fail;refine(aa HH _ (aa H2)).mono ?_;rintro e w3 ⟨rfl,hb⟩;have H3:=ab ((aa H2).below hb);have aq:=ab ((aa aF).trans (But.of_below hb));clear hb;go_wp2_with fail;go_ret;refine⟨?_,aa aq, ?_⟩
   ·unfold nx;rw[aa HS,aa fo];rfl
   ·rw[aa HS,aa fo];exact aa H3
theorem BK {s:ByteArray} {i z:Nat} {o:Int} (c:Nat) (w:World) (hs:s.size≤65536) (hi:i≤s.size) (hR:bR w z s i o) (hc:nx s i=c) (h0:c≠0):Calls prog 200 #[.pointer (some ⟨z,0,none⟩),.int .u8 (c:Int)] w fun e w'=>e=.returned (.tuple #[])∧But z w w'∧bR w' z s (sk s i+1) o:=by
 have HN:=ab (sL w hs hi hR);have au:=kU (s:=s) (i:=i) (by omega)
 subst hc;generalize hk:sk s i=k at *;generalize nx s i=c at *;clear hR hk h0;go_enter func200,ntmps200;go_wp2_with fail;refine(aa HN).mono ?_;rintro e w2 ⟨rfl,hb,db⟩;have c1:=db.c1;have fz:=db.fz 1;have H2:=ab db;have HB:=ab hb;clear hb db;go_wp2_with fail;go_end0;exact⟨rfl,(aa HB).setCell 1 _,(aa H2).set1 (k+1)⟩
theorem Bl {s:ByteArray} {i z:Nat} {o:Int} (c:Nat) (w:World) (hs:s.size≤65536) (hi:i≤s.size) (hR:bR w z s i o) (hc:nx s i≠c):Calls prog 200 #[.pointer (some ⟨z,0,none⟩),.int .u8 (c:Int)] w fun e w'=>e=aC 2 (sk s i)∧But z w w':=by
 have HN:=ab (sL w hs hi hR);have bo:((nx s i:Int)==(c:Int))=false:=bn;clear hR hc;generalize sk s i=k at *;generalize nx s i=b at *;go_enter func200,ntmps200;go_wp2_with fail;refine(aa HN).mono ?_;rintro e w2 ⟨rfl,hb,db⟩;have HB:=ab hb;have HS:=ab (uq w2 db);clear hb db;go_wp2_with (refine(aa HS).mono ?_;rintro e w ⟨rfl,rfl⟩;unfold aC);exact⟨rfl,rfl,aa HB⟩
def fZ {α:Type} (V:α→Ending→World→Prop) (z:Nat) (s:ByteArray) (o:Int) (w:World) (R:Rd α) (e:Ending) (w':World):Prop:=
 But z w w'∧(match R with | .ok x=>V x.1 e w'∧bR w' z s x.2 o | .error x=>e=aC x.1 x.2)
section
variable {α:Type} {V:α→Ending→World→Prop} {z:Nat} {s:ByteArray} {o:Int} {w w':World} {R:Rd α} {e:Ending}
theorem lz {a:α} {j:Nat} (h:R=.ok (a,j)) (hb:But z w w') (hv:V a e w') (hr:bR w' z s j o):fZ V z s o w R e w':=by subst h;exact⟨hb,hv,hr⟩
theorem fQ {er:Int} {i:Nat} (h:R=.error (er,i)) (hb:But z w w') (he:e=aC er i):fZ V z s o w R e w':=by subst h;exact⟨hb,he⟩
theorem jB {a:α} {j:Nat} (h:fZ V z s o w R e w') (hr:R=.ok (a,j)):But z w w'∧V a e w'∧bR w' z s j o:=by subst hr;exact⟨h.1,h.2.1,h.2.2⟩
theorem j9 {er:Int} {i:Nat} (h:fZ V z s o w R e w') (hr:R=.error (er,i)):But z w w'∧e=aC er i:=by subst hr;exact h
end
def lD (t:ByteArray) (e:Ending) (_:World):Prop:=e=.returned (.string t)
def numV (n:Nat) (e:Ending) (_:World):Prop:=e=.returned (.int .i64 (n:Int))
open Go.RowKit
theorem wJ {s:ByteArray} {i z:Nat} {o:Int} (w:World) (hs:s.size≤65536) (hi:i≤s.size) (hR:bR w z s i o):Calls prog 196 #[.pointer (some ⟨z,0,none⟩)] w fun e w'=>e=.returned (.string (s.extract i (bX s i)))∧But z w w'∧bR w' z s (bX s i) o:=by
 have nD:=ab hR;have c1:=hR.c1;clear hR;go_enter func196,ntmps196;go_wp2_with fail;clear c1;go_loopw [] (fun wr=>∃k:Nat,i≤k∧k≤s.size∧Hid (bR wr z s k o)∧Hid (But z w wr)∧Hid (bX s i=bX s k)) (fun wr=>s.size - kI wr z)
 case atStart=>exact⟨i,ax _,hi,aa nD,But.refl _ _,rfl⟩
 case round=>
  obtain⟨k,hik,hk,HR,HB,HS⟩:=hrel;have HH:=ab (fun w h=>zJ (z:=z) (o:=o) w hs hk h)
  have HL:=ab (sE (aj s k) (ke _ _));have HD:=ab (xM (aj s k) (ke _ _));have HM:=ab (aa HR).at;have bP:=ab (fun h (q:di (aj s k)=true∨cW (aj s k)=true)=>(show bX s k=bX s (k+1) from nJ h (by unfold dF;rcases q with q | q <;> simp[q])))
  have ao:=ab (fun (q1:di (aj s k)=false) (q2:cW (aj s k)=false)=>(show bX s k=k from oA fun _=>by unfold dF;simp[q1,q2]))
  have HI:=ab (fun (q:di (aj s k)=true∨cW (aj s k)=true)=>show k < s.size from by
   by_cases h:k < s.size
   ·exact h
   ·rw[pz s k (by omega)] at q;exact absurd q (by decide))
  generalize aj s k=b at *
  cases h1:di b
  ·cases h2:cW b
   ·have fo:=ab (aa ao h1 h2)
    rw[h1] at HL;rw[h2] at HD;clear h1 h2 bP ao HI;go_wp2_with fail;refine(aa HH _ (aa HR)).mono ?_;rintro e w2 ⟨rfl,hb⟩;have H2:=ab ((aa HR).below hb);have aF:=ab ((aa HB).trans (But.of_below hb));clear hb;go_wp2_with fail;refine(aa HL _).mono ?_;rintro e w ⟨rfl,rfl⟩;go_wp2_with fail;refine(aa HH _ (aa H2)).mono ?_;rintro e w3 ⟨rfl,hb⟩;have H3:=ab ((aa H2).below hb);have aq:=ab ((aa aF).trans (But.of_below hb));clear hb;go_wp2_with fail;refine(aa HD _).mono ?_;rintro e w ⟨rfl,rfl⟩;have c0:=(aa H3).c0;have c1:=(aa H3).c1;have eI:(i:Int)≤(k:Int):=by omega
    go_wp2_with fail;go_region;go_wp2_with fail;go_ret;refine⟨?_,(aa aq).trans (But.of_below (aW _ _).drew), ?_⟩
    ·rw[aa HS,aa fo];rfl
    ·rw[aa HS,aa fo];exact(aa H3).below (aW _ _).drew
   ·have fo:=ab (aa bP (aa HI (.inr h2)) (.inr h2))
    have au:=aa HI (.inr h2);rw[h1] at HL;rw[h2] at HD;clear h1 h2 bP ao HI;go_wp2_with fail;refine(aa HH _ (aa HR)).mono ?_;rintro e w2 ⟨rfl,hb⟩;have H2:=ab ((aa HR).below hb);have aF:=ab ((aa HB).trans (But.of_below hb));clear hb;go_wp2_with fail;refine(aa HL _).mono ?_;rintro e w ⟨rfl,rfl⟩;go_wp2_with fail;refine(aa HH _ (aa H2)).mono ?_;rintro e w3 ⟨rfl,hb⟩;have H3:=ab ((aa H2).below hb);have aq:=ab ((aa aF).trans (But.of_below hb));clear hb;go_wp2_with fail;refine(aa HD _).mono ?_;rintro e w ⟨rfl,rfl⟩;have c1:=(aa H3).c1;have fz:=(aa H3).fz 1;go_wp2_with fail;have qb:=ab ((aa H3).set1 (k+1));exact⟨⟨k+1,by omega,by omega,aa qb,(aa aq).setCell 1 _,by rw[aa HS,aa fo];rfl⟩,by have h1:=aa HM;have h2:=(aa qb).at;simp only[Int.natCast_add,Int.cast_ofNat_Int] at h2;rw[h1];omega⟩
  ·have fo:=ab (aa bP (aa HI (.inl h1)) (.inl h1))
   have au:=aa HI (.inl h1);rw[h1] at HL;clear h1 bP ao HI HD;go_wp2_with fail;refine(aa HH _ (aa HR)).mono ?_;rintro e w2 ⟨rfl,hb⟩;have H3:=ab ((aa HR).below hb);have aq:=ab ((aa HB).trans (But.of_below hb));clear hb;go_wp2_with fail;refine(aa HL _).mono ?_;rintro e w ⟨rfl,rfl⟩;have c1:=(aa H3).c1;have fz:=(aa H3).fz 1;go_wp2_with fail;have qb:=ab ((aa H3).set1 (k+1));exact⟨⟨k+1,by omega,by omega,aa qb,(aa aq).setCell 1 _,by rw[aa HS,aa fo];rfl⟩,by have h1:=aa HM;have h2:=(aa qb).at;simp only[Int.natCast_add,Int.cast_ofNat_Int] at h2;rw[h1];omega⟩
theorem Bu (s:ByteArray) {i j:Nat} (_:i≤j) (hj:j≤s.size):(s.extract i j).size=j - i:=by rw[ByteArray.size_extract];omega
theorem Ek {s:ByteArray} {i z:Nat} {o:Int} (w:World) (hs:s.size≤65536) (hi:i≤s.size) (hR:bR w z s i o):Calls prog 190 #[.pointer (some ⟨z,0,none⟩)] w fun e w'=>fZ lD z s o w (gR s i) e w':=by
 have oO:=eM s i hi;have HN:=ab (sL w hs hi hR);have HL:=ab (sE (nx s i) (ke _ _));have HW:=ab (fun w h=>wJ (z:=z) (o:=o) w hs oO.2 h)
 have HE:=ab (fun q=>px (s:=s) (j:=sk s i) q)
 unfold gR;clear hR
 cases h1:di (nx s i)
 ·rw[h1] at HL
  rw[ac (by decide)]
  show Calls _ _ _ _ fun e w'=>fZ lD z s o w (.error (2,sk s i)) e w'
  clear h1 HE HW;generalize sk s i=k at *;generalize nx s i=b at *;go_enter func190,ntmps190;go_wp2_with fail;refine(aa HN).mono ?_;rintro e w2 ⟨rfl,hb,db⟩;have HB:=ab hb;have HS:=ab (uq w2 db);clear hb db;go_wp2_with fail;refine(aa HL _).mono ?_;rintro e w2 ⟨rfl,rfl⟩;go_wp2_with (refine(aa HS).mono ?_;rintro e w ⟨rfl,rfl⟩;unfold aC);exact⟨rfl,fQ rfl (aa HB) rfl⟩
 ·have hE:=aa HE h1
  have ay:=Bu s (Nat.le_of_lt hE.1) hE.2;rw[h1] at HL;rw[af rfl];clear h1 HE
  by_cases hq:16 < bX s (sk s i) - sk s i
  ·rw[af hq]
   show Calls _ _ _ _ fun e w'=>fZ lD z s o w (.error (7,sk s i)) e w'
   have HT:=ab (fun w=>wK 7 (sk s i) w)
   have hg:(16:Int) < ((s.extract (sk s i) (bX s (sk s i))).size:Int):=by rw[ay];omega
   clear hq ay;generalize s.extract (sk s i) (bX s (sk s i))=t at *;generalize bX s (sk s i)=e2 at *;generalize sk s i=k at *;generalize nx s i=b at *;go_enter func190,ntmps190;go_wp2_with fail;refine(aa HN).mono ?_;rintro e w2 ⟨rfl,hb,db⟩;have HB:=ab hb;have H2:=ab db;have c1:=db.c1;clear hb db;go_wp2_with fail;refine(aa HL _).mono ?_;rintro e w2 ⟨rfl,rfl⟩;go_wp2_with fail;refine(aa HW _ (aa H2)).mono ?_;rintro e w3 ⟨rfl,hb,hR3⟩;have aq:=ab ((aa HB).trans hb);clear hb hR3 c1;go_wp2_with (refine(aa HT _).mono ?_;rintro e w ⟨rfl,rfl⟩;unfold aC);exact⟨rfl,fQ rfl (aa aq) rfl⟩
  ·rw[ac hq]
   show Calls _ _ _ _ fun e w'=>fZ lD z s o w (.ok (s.extract (sk s i) (bX s (sk s i)),bX s (sk s i))) e w'
   have HC:=ab (fun w=>Kl (s.extract (sk s i) (bX s (sk s i))) w (by rw[ay];omega))
   have hg:¬(16:Int) < ((s.extract (sk s i) (bX s (sk s i))).size:Int):=by rw[ay];omega
   clear hq ay;generalize s.extract (sk s i) (bX s (sk s i))=t at *;generalize bX s (sk s i)=e2 at *;generalize sk s i=k at *;generalize nx s i=b at *;go_enter func190,ntmps190;go_wp2_with fail;refine(aa HN).mono ?_;rintro e w2 ⟨rfl,hb,db⟩;have HB:=ab hb;have H2:=ab db;have c1:=db.c1;clear hb db;go_wp2_with fail;refine(aa HL _).mono ?_;rintro e w2 ⟨rfl,rfl⟩;go_wp2_with fail;refine(aa HW _ (aa H2)).mono ?_;rintro e w3 ⟨rfl,hb,hR3⟩;have aq:=ab ((aa HB).trans hb);have H3:=ab hR3;clear hb hR3 c1;go_wp2_with fail;refine(aa HC _).mono ?_;rintro e w4 ⟨rfl,hb⟩;have dz:=ab ((aa aq).trans (But.of_below hb));have H4:=ab ((aa H3).below hb);clear hb;go_wp2_with fail;go_ret;exact lz rfl (aa dz) rfl (aa H4)
open Go.RowKit
theorem L7 (s:ByteArray) (j:Nat):∀m,kW s j m≤65537
 | 0=>by show 0≤65537;decide
 | m+1=>by rw[kW];omega
theorem ED {s:ByteArray} {k:Nat} (h:cW (aj s k)=true):k < s.size:=by
 by_cases q:k < s.size
 ·exact q
 ·rw[pz s k (by omega)] at h;exact absurd h (by decide)
theorem E8 {s:ByteArray} {j m k z:Nat} {o:Int} {w w4 wr:World} {v:Int} (hkm:k+1=j+(m+1)) (hc:(kW s j (m+1):Int)=v) (hk:j+(m+1)≤s.size)
  (hR:bR (w4.setCell ⟨z,1,none⟩ (.int .i64 ((k+1:Nat):Int))) z s (k+1) o) (hB:But z w (w4.setCell ⟨z,1,none⟩ (.int .i64 ((k+1:Nat):Int)))) (hd:iX s j=iX s (k+1)) (hq:aj s j=48→m+1≤1) (hm:kI wr z=k) (_hlt:k < s.size):
  (∃m:Nat,Value.int .i64 v=.int .i64 (kW s j m:Int)∧j+m≤s.size∧Hid (bR (w4.setCell ⟨z,1,none⟩ (.int .i64 ((k:Int)+1))) z s (j+m) o)∧Hid (But z w (w4.setCell ⟨z,1,none⟩ (.int .i64 ((k:Int)+1))))∧Hid (iX s j=iX s (j+m))∧Hid (aj s j=48→m≤1))∧
  s.size - kI (w4.setCell ⟨z,1,none⟩ (.int .i64 ((k:Int)+1))) z < s.size - kI wr z:=by
 have h2:=hR.at;refine⟨⟨m+1,by rw[hc],hk, ?_,hB, ?_,hq⟩, ?_⟩
 ·rw[←hkm];exact hR
 ·rw[←hkm];exact hd
 ·have h3:kI (w4.setCell ⟨z,1,none⟩ (.int .i64 ((k:Int)+1))) z=k+1:=h2
  rw[h3,hm];omega
theorem I2 {s:ByteArray} {i z:Nat} {o:Int} (w:World) (hs:s.size≤65536) (hi:i≤s.size) (hR:bR w z s i o):Calls prog 202 #[.pointer (some ⟨z,0,none⟩)] w fun e w'=>fZ numV z s o w (mB s i) e w':=by
 have oO:=eM s i hi;have HN:=ab (sL w hs hi hR);have HL:=ab (xM (nx s i) (ke _ _));have HE:=ab (fun q=>BY (s:=s) (j:=sk s i) q)
 unfold mB;clear hR
 cases h1:cW (nx s i)
 ·rw[h1] at HL
  rw[ac (by decide)]
  show Calls _ _ _ _ fun e w'=>fZ numV z s o w (.error (2,sk s i)) e w'
  clear h1 HE;generalize sk s i=k at *;generalize nx s i=b at *;go_enter func202,ntmps202;go_wp2_with fail;refine(aa HN).mono ?_;rintro e w2 ⟨rfl,hb,db⟩;have HB:=ab hb;have HS:=ab (uq w2 db);clear hb db;go_wp2_with fail;refine(aa HL _).mono ?_;rintro e w2 ⟨rfl,rfl⟩;go_wp2_with (refine(aa HS).mono ?_;rintro e w ⟨rfl,rfl⟩;unfold aC);exact⟨rfl,fQ rfl (aa HB) rfl⟩
 ·have hE:=aa HE h1
  rw[h1] at HL;rw[af rfl];have jL:cW (aj s (sk s i))=true:=h1;clear h1 HE;generalize nx s i=b at *;generalize hj:sk s i=j at *;clear hj hi;have hjs:j < s.size:=by omega
  have HJ:=ab (mY s j hjs)
  -- what it comes to
  obtain⟨R,hRd⟩:∃R:Rd Nat,R=(if aj s j=48∧j+1 < iX s j then .error (2,j+1) else if 65536 < kW s j (iX s j - j) then .error (3,j) else .ok (kW s j (iX s j - j),iX s j)):=⟨_,rfl⟩;rw[←hRd];have HR:=ab hRd;clear hRd;go_enter func202,ntmps202;go_wp2_with fail;refine(aa HN).mono ?_;rintro e w2 ⟨rfl,hb,db⟩;have HB:=ab hb;have H2:=ab db;have c1:=db.c1;clear hb db HN;go_wp2_with fail;refine(aa HL _).mono ?_;rintro e w2 ⟨rfl,rfl⟩;clear HL;go_wp2_with fail;clear c1;have HD0:=ab jL;have HE:=ab hE;clear jL hE oO;go_loopw [4] (fun v wr=>∃m:Nat,v=.int .i64 (kW s j m:Int)∧j+m≤s.size∧Hid (bR wr z s (j+m) o)∧Hid (But z w wr)∧Hid (iX s j=iX s (j+m))∧Hid (aj s j=48→m≤1)) (fun _ wr=>s.size - kI wr z)
  case atStart=>exact⟨0,rfl,by omega,aa H2,aa HB,rfl,fun _=>by omega⟩
  case round=>
   obtain⟨m,rfl,hk,sr,mq,HSr,HQ⟩:=hrel;have HH:=ab (fun w h=>zJ (z:=z) (o:=o) w hs hk h)
   have HD:=ab (xM (aj s (j+m)) (ke _ _));have HM:=ab (aa sr).at;have bP:=ab (fun (q:cW (aj s (j+m))=true)=>(show iX s (j+m)=iX s (j+m+1) from nJ (ED q) q))
   have ao:=ab (fun (q:cW (aj s (j+m))=false)=>(show iX s (j+m)=j+m from oA fun _=>q))
   have oe:=L7 s j m;have HCP:Hid (kW s j (m+1)=min (10 * kW s j m+(aj s (j+m) - 48)) 65537):=ab (rfl)
   cases h2:cW (aj s (j+m))
   ·have fo:=ab (aa ao h2)
    rw[h2] at HD;clear h2 bP ao HCP;have HT:=ab (fun w=>wK 3 j w)
    have jf:Hid (iX s j=j+m):=ab (by rw[aa HSr,aa fo])
    have HNZ:Hid (¬(aj s j=48∧j+1 < iX s j)):=ab (fun ⟨q1,q2⟩=>by have h1:=aa HQ q1;have h2:=aa jf;omega)
    generalize hn:kW s j m=n at *;have HC:Hid (kW s j (iX s j - j)=n):=ab (by rw[aa jf,Nat.add_sub_cancel_left];exact hn)
    clear hn
    by_cases hq:65536 < n
    ·have hg:(65536:Int) < (n:Int):=by omega
     have eA:Hid (R=.error (3,j)):=ab (by rw[aa HR,ac (aa HNZ),af (by rw[aa HC];exact hq)])
     clear hq;go_wp2_with fail;refine(aa HH _ (aa sr)).mono ?_;rintro e w3 ⟨rfl,hb⟩;have aq:=ab ((aa mq).trans (But.of_below hb));clear hb;go_wp2_with fail;refine(aa HD _).mono ?_;rintro e w3 ⟨rfl,rfl⟩;go_wp2_with (refine(aa HT _).mono ?_;rintro e w ⟨rfl,rfl⟩;unfold aC);exact⟨rfl,fQ (aa eA) (aa aq) rfl⟩
    ·have hg:¬(65536:Int) < (n:Int):=by omega
     have eA:Hid (R=.ok (n,j+m)):=ab (by rw[aa HR,ac (aa HNZ),ac (by rw[aa HC];exact hq),aa HC,aa jf])
     clear hq;go_wp2_with fail;refine(aa HH _ (aa sr)).mono ?_;rintro e w3 ⟨rfl,hb⟩;have aq:=ab ((aa mq).trans (But.of_below hb));have H3:=ab ((aa sr).below hb);clear hb;go_wp2_with fail;refine(aa HD _).mono ?_;rintro e w3 ⟨rfl,rfl⟩;go_wp2_with fail;go_ret;exact lz (aa eA) (aa aq) rfl (aa H3)
   ·have au:=ED h2
    have fo:=ab (aa bP h2);have hdd:48≤aj s (j+m)∧aj s (j+m)≤57:=mG h2;have HDE:Hid (j+m < iX s j):=ab (by
     rw[aa HSr];exact(BY h2).1)
    rw[h2] at HD;clear h2 bP ao
    by_cases hz:1≤m∧aj s j=48
    ·have hm:m=1:=by have:=aa HQ hz.2;omega
     subst hm;have eA:Hid (R=.error (2,j+1)):=ab (by rw[aa HR,af ⟨hz.2,aa HDE⟩])
     have ni:=hz.2;clear hz;have hg:(j:Int) < ((j+1:Nat):Int):=by omega
     have hz3:((s[j]'hjs).toNat:Int)=48:=by rw[aa HJ,ni];rfl
     have hz4:(((s[j]'hjs).toNat:Int)==48)=true:=by rw[hz3];rfl
     clear ni hz3;go_wp2_with fail;refine(aa HH _ (aa sr)).mono ?_;rintro e w3 ⟨rfl,hb⟩;have aq:=ab ((aa mq).trans (But.of_below hb));have H3:=ab ((aa sr).below hb);clear hb;go_wp2_with fail;refine(aa HD _).mono ?_;rintro e w3 ⟨rfl,rfl⟩;have c0:=(aa H3).c0;have c1:=(aa H3).c1;have HS:=ab (uq _ (aa H3));go_wp2_with (refine(aa HS).mono ?_;rintro e w ⟨rfl,rfl⟩;unfold aC);exact⟨rfl,fQ (aa eA) (aa aq) rfl⟩
    ·have aS:Hid (aj s j=48→m+1≤1):=ab (fun q=>by
      have:¬1≤m:=fun h=>hz ⟨h,q⟩
      omega)
     have hsub:IntKind.u8.wrap ((aj s (j+m):Int) - 48)=((aj s (j+m) - 48:Nat):Int):=by
      rw[IntWalk.u8_in _ (by omega)];omega
     have hdg:aj s (j+m) - 48≤9:=by omega
     generalize aj s (j+m) - 48=dg at *;have hzz:¬j < j+m∨(j < j+m∧aj s j≠48):=by
      rcases cX j (j+m) with h | h
      ·exact .inr ⟨h,fun q=>hz ⟨by omega,q⟩⟩
      ·exact .inl (by omega)
     clear hz hdd;have HKM:Hid (j+m+1=j+(m+1)):=ab (by omega)
     have HCP2:Hid ((kW s j (m+1):Int)=min (10 * (kW s j m:Int)+(dg:Int)) 65537):=ab (by rw[aa HCP];omega)
     clear HCP;generalize kW s j m=n at *;generalize jb:j+m=k at *;have ft:=ab jb;clear jb;rcases hzz with hg | ⟨hg,hz⟩
     ·have mO:¬(j:Int) < (k:Int):=by omega
      go_wp2_with fail;refine(aa HH _ (aa sr)).mono ?_;rintro e w3 ⟨rfl,hb⟩;have aq:=ab ((aa mq).trans (But.of_below hb));have H3:=ab ((aa sr).below hb);clear hb;go_wp2_with fail;refine(aa HD _).mono ?_;rintro e w3 ⟨rfl,rfl⟩;have c0:=(aa H3).c0;have c1:=(aa H3).c1;go_wp2_with fail;refine(aa HH _ (aa H3)).mono ?_;rintro e w4 ⟨rfl,hb⟩;have dz:=ab ((aa aq).trans (But.of_below hb));have H4:=ab ((aa H3).below hb);clear hb c0 c1;have c1:=(aa H4).c1;have fz:=(aa H4).fz 1;go_wp2_with fail;have HR5:=ab ((aa H4).set1 (k+1));exact E8 (aa HKM) (aa HCP2) (by have:=aa HKM;omega) (aa HR5) ((aa dz).setCell 1 _) (by rw[aa HSr,aa fo]) (aa aS) (aa HM) au
     ·have mO:(j:Int) < (k:Int):=by omega
      have hz4:(((s[j]'hjs).toNat:Int)==48)=false:=by rw[aa HJ,pL];omega
      clear hz;go_wp2_with fail;refine(aa HH _ (aa sr)).mono ?_;rintro e w3 ⟨rfl,hb⟩;have aq:=ab ((aa mq).trans (But.of_below hb));have H3:=ab ((aa sr).below hb);clear hb;go_wp2_with fail;refine(aa HD _).mono ?_;rintro e w3 ⟨rfl,rfl⟩;have c0:=(aa H3).c0;have c1:=(aa H3).c1;go_wp2_with fail;refine(aa HH _ (aa H3)).mono ?_;rintro e w4 ⟨rfl,hb⟩;have dz:=ab ((aa aq).trans (But.of_below hb));have H4:=ab ((aa H3).below hb);clear hb c0 c1;have c1:=(aa H4).c1;have fz:=(aa H4).fz 1;go_wp2_with fail;have HR5:=ab ((aa H4).set1 (k+1));exact E8 (aa HKM) (aa HCP2) (by have:=aa HKM;omega) (aa HR5) ((aa dz).setCell 1 _) (by rw[aa HSr,aa fo]) (aa aS) (aa HM) au
open Go.RowKit
theorem Gu (s:ByteArray) (k:Nat) (h:k < s.size):s.data.toList.getD k 0=s[k]'h:=by
 have:k < s.data.toList.length:=by simpa using h
 rw[List.getD,jH this];rfl
theorem DV {w w':World} {z B:Nat} {v:Value} {l:List UInt8} (h:bm w B v l) (hb:But z w w') (hz:∀c t f,w.heap[z]? =some (.cells c t f)→t≠5):bm w' B v l:=by
 refine World.ownsRow.kept (row:=some z) h ⟨hb.os,hb.tape,hb.output,hb.size,fun k hk bo=>hb.block k hk fun e=>bo (by rw[e])⟩ ?_
 refine .inr fun e=> ?_
 rcases h.2 with ⟨rfl,_⟩ | ⟨g,cap,cur,rfl,_,vn,_⟩
 ·cases e
 ·have e2:g=z:=by simpa [Value.ownBlock] using e
  subst e2;exact hz _ _ _ vn rfl
theorem Lx {w:World} {B:Nat} {v:Value} {l:List UInt8} (ho:bm w B v l):
  (convert 48 9 v).run prog w=.ok (.string ⟨l.toArray⟩) w:=by
 rcases ho.2 with ⟨rfl,h0⟩ | ⟨g,cap,cur,rfl,_,_,_,_,_,_⟩
 ·have:l=[]:=kJ h0
  subst this;exact run_convert_bytes_nil (P:=prog) w 48 5 underlying48 underlying5 0 0 9 underlying9
 ·exact run_convert_bytes_back (P:=prog) w 48 9 5 ⟨g,0,none⟩ cap l underlying48 underlying5 underlying9 (fun j hj=>World.ownsRow.cells ho rfl j _ (by simp only[rP,jH hj,Option.map_some,bc]))
theorem Ei (w:World) (b:UInt8):(((w.alloc (.cells #[.int .u8 (b.toNat:Int)] 5)).drew).drew.drew).cell? ⟨w.heap.size,0,none⟩=some (bc b):=by
 show (w.alloc (.cells #[bc b] 5)).cell? ⟨w.heap.size,0,none⟩=_;rw[eX _ _ _ _ _ _ (aw rfl)];rfl
theorem J9 (w:World) (b:UInt8):((w.alloc (.cells #[.int .u8 (b.toNat:Int)] 5)).drew).cell? ⟨w.heap.size,0,none⟩=some (bc b):=Ei w b
theorem EV {W w':World} {z B k:Nat} {s:ByteArray} {o:Int} (h:bR W z s k o) (hb:Below B W w') (hz:z < B):bR w' z s k o:=(hb.block z hz).trans h
theorem FF {w W w':World} {z:Nat} (h:But z w W) (hb:Below w.heap.size W w'):But z w w':=
 ⟨hb.os.trans h.os,hb.tape.trans h.tape,hb.output.trans h.output,bJ h.size hb.size,fun k hk hz=>(hb.block k hk).trans (h.block k hk hz)⟩
theorem bR.ty {w:World} {z k:Nat} {s:ByteArray} {o:Int} (h:bR w z s k o):∀c t f,w.heap[z]? =some (.cells c t f)→t≠5:=fun c t f q=>by
 rw[h] at q;injection q with q
 injection q with _ q2 _
 rw[←q2];decide
theorem EW {s:ByteArray} {i j k z:Nat} {o:Int} {w w5 wr:World} {v:Value} {L:List UInt8} (hk:k < s.size) (hL:L.length≤k+1)
  (hR:bR w5 z s k o) (hB:But z w w5) (hY:bm w5 w.heap.size v L) (hm:kI wr z=j) (hj:j≤k) (hC:cq s (i+1)=cq s (k+1)∧ct s (i+1)=L++ct s (k+1)):
  (∃(k2:Nat) (L:List UInt8),k2≤s.size∧L.length≤k2∧Hid (bR (w5.setCell ⟨z,1,none⟩ (.int .i64 ((k:Int)+1))) z s k2 o)∧Hid (But z w (w5.setCell ⟨z,1,none⟩ (.int .i64 ((k:Int)+1))))∧Hid (bm (w5.setCell ⟨z,1,none⟩ (.int .i64 ((k:Int)+1))) w.heap.size v L)∧Hid (cq s (i+1)=cq s k2∧ct s (i+1)=L++ct s k2))∧
  s.size - kI (w5.setCell ⟨z,1,none⟩ (.int .i64 ((k:Int)+1))) z < s.size - kI wr z:=by
 have h1:=hR.set1 (k+1);have h2:=h1.at;have h3:kI (w5.setCell ⟨z,1,none⟩ (.int .i64 ((k:Int)+1))) z=k+1:=h2;exact⟨⟨k+1,L,hk,hL,h1,hB.setCell 1 _,DV hY ((But.refl z w5).setCell 1 _) hR.ty,hC⟩,by rw[h3,hm];omega⟩
theorem C4 {s:ByteArray} {i z:Nat} {o:Int} (w:World) (hs:s.size≤65536) (hi:i < s.size) (hR:bR w z s i o):Calls prog 193 #[.pointer (some ⟨z,0,none⟩)] w fun e w'=>fZ lD z s o w (jV s i) e w':=by
 have c1:=hR.c1;have fz:=hR.fz 1;have nD:=ab (hR.set1 (i+1));have aD:=ab ((But.refl z w).setCell 1 (.int .i64 ((i:Int)+1)));have hzl:=hR.lt;clear hR;go_enter func193,ntmps193;go_wp2_with fail;clear c1 fz;go_loopw [3] (fun v wr=>∃(k:Nat) (L:List UInt8),k≤s.size∧L.length≤k∧Hid (bR wr z s k o)∧Hid (But z w wr)∧Hid (bm wr w.heap.size v L)∧Hid (cq s (i+1)=cq s k∧ct s (i+1)=L++ct s k)) (fun _ wr=>s.size - kI wr z)
 case atStart=>exact⟨i+1,[],by omega,by simp,aa nD,aa aD,m8 _ _ _ _,rfl,rfl⟩
 case round=>
  obtain⟨k,L,hk,hLk,HR,HB,HY,HC⟩:=hrel;have c0:=(aa HR).c0;have c1:=(aa HR).c1;have fz:=(aa HR).fz 1;have HM:=ab (aa HR).at;rcases cX k s.size with au | jc
  ·have hg:(k:Int) < (s.size:Int):=by omega
   have HG:=ab (Gu s k au);have rl:=ab (mY s k au)
   by_cases gy:aj s k=39
   ·have hb39:(((s[k]'au).toNat:Int)==39)=true:=by rw[aa rl,gy];rfl
    have d6:Hid (bR ((wr.drew.drew).setCell ⟨z,1,none⟩ (.int .i64 ((k+1:Nat):Int))) z s (k+1) o):=ab (((aa HR).below ((aW _ _).drew.drew)).set1 (k+1));have bf:Hid (But z w ((wr.drew.drew).setCell ⟨z,1,none⟩ (.int .i64 ((k+1:Nat):Int)))):=ab (((aa HB).trans (But.of_below (aW _ _).drew.drew)).setCell 1 _);have lO:Hid (bm ((wr.drew.drew).setCell ⟨z,1,none⟩ (.int .i64 ((k+1:Nat):Int))) w.heap.size _ L):=ab (DV ((aa HY).later (aW _ _).drew.drew) ((But.refl z _).setCell 1 _) ((aa HR).below ((aW _ _).drew.drew)).ty);have HH:=ab (fun w h=>zJ (z:=z) (o:=o) (s:=s) (i:=k+1) w hs (by omega) h)
    by_cases ip:aj s (k+1)=39
    ·have vb:k+1 < s.size:=mx (by omega)
     have qf:=ab (Gu s (k+1) vb);have HBA2:=ab (mY s (k+1) vb);have lR:Hid (cq s (i+1)=cq s (k+1+1)∧ct s (i+1)=(L++[s[k+1]'vb])++ct s (k+1+1)):=ab (by
      have e39:s[k+1]'vb=39:=by
       have h:=aa HBA2;rw[ip] at h;exact tm.1 h
      rw[(aa HC).1,(aa HC).2,yx gy ip,yw gy ip,e39,gg];exact⟨rfl,rfl⟩)
     rw[ip] at HH;clear gy ip;go_wp2_with fail;go_region;go_wp2_with fail;go_region;go_wp2_with fail;refine(aa HH _ (aa d6)).mono ?_;rintro e w3 ⟨rfl,hb⟩;have aq:=ab ((aa bf).trans (But.of_below hb));have H3:=ab ((aa d6).below hb);have oS:=ab ((aa lO).later hb);clear hb c0 c1 fz d6 bf lO;have c0:=(aa H3).c0;have c1:=(aa H3).c1;have fz:=(aa H3).fz 1;have ay:=(aa aq).size;have fk:((k+1:Nat):Int) < (s.size:Int):=by omega
     have eB:Hid (((k:Int)+1)=((k+1:Nat):Int)):=ab (by omega)
     generalize k+1=k2 at *;go_wp2_with fail;go_region_law (refine DD rfl _ _ rfl w.heap.size _ L (s[k2]'vb) w3.heap.size rfl rfl ((aa oS).later (((ba _).drew))) (J9 w3 (s[k2]'vb)) (by simp;omega) (by omega) ?_;intro v' w' qR bD CQ)
     all_goals (
      have H5:=ab (EV ((aa H3).below (((ba _).drew))) bD hzl);have ez:=ab (FF ((aa aq).trans (But.of_below (((ba _).drew)))) bD);have qY:=ab qR;clear qR bD CQ c0 c1 fz;have c1:=(aa H5).c1;have fz:=(aa H5).fz 1;go_wp2_with fail;exact EW vb (by have h:=aa eB;simp;omega) (aa H5) (aa ez) (aa qY) (aa HM) (by have h:=aa eB;omega) (aa lR))
    ·have lR:Hid (cq s (i+1)=k∧ct s (i+1)=L):=ab (by
      rw[(aa HC).1,(aa HC).2,ym gy ip,yl gy ip,k9];exact⟨rfl,rfl⟩)
     have HQ:Hid (jV s i=.ok (⟨L.toArray⟩,k+1)):=ab (by
      unfold jV;rw[(aa lR).1,(aa lR).2,af au])
     have bo:(((aj s (k+1):Nat):Int)==39)=false:=bn;clear gy ip;go_wp2_with fail;go_region;go_wp2_with fail;go_region;go_wp2_with fail;refine(aa HH _ (aa d6)).mono ?_;rintro e w3 ⟨rfl,hb⟩;have aq:=ab ((aa bf).trans (But.of_below hb));have H3:=ab ((aa d6).below hb);have hout:=Lx ((aa lO).later hb);clear hb c0 c1 fz d6 bf lO;go_wp2_with fail;go_ret;exact lz (aa HQ) (aa aq) rfl (aa H3)
   ·have hb39:(((s[k]'au).toNat:Int)==39)=false:=by rw[aa rl,pL];omega
    have lR:Hid (cq s (i+1)=cq s (k+1)∧ct s (i+1)=(L++[s[k]'au])++ct s (k+1)):=ab (by
     rw[(aa HC).1,(aa HC).2,yc au gy,yb au gy,aa HG,gg];exact⟨rfl,rfl⟩)
    clear gy;go_wp2_with fail;go_region;go_wp2_with fail;go_region;go_wp2_with fail;have ay:=(aa HB).size;go_region_law (refine DD rfl _ _ rfl w.heap.size _ L (s[k]'au) wr.heap.size rfl rfl ((aa HY).later ((((ba _).drew).drew).drew)) (Ei wr (s[k]'au)) (by simp;omega) (by omega) ?_;intro v' w' qR bD CQ)
    all_goals (
     have H5:=ab (EV ((aa HR).below (((ba _).drew).drew.drew)) bD hzl);have ez:=ab (FF ((aa HB).trans (But.of_below (((ba _).drew).drew.drew))) bD);have qY:=ab qR;clear qR bD CQ c0 c1 fz;have c1:=(aa H5).c1;have fz:=(aa H5).fz 1;go_wp2_with fail;exact EW au (by simp;omega) (aa H5) (aa ez) (aa qY) (aa HM) (ax _) (aa lR))
  ·obtain rfl:k=s.size:=by omega
   have hg:¬(s.size:Int) < (s.size:Int):=by omega
   have HQ:Hid (jV s i=.error (2,s.size)):=ab (by
    unfold jV;rw[(aa HC).1,yz (ax _),ac (by omega)])
   have fw:=ab (fun w h=>uq (z:=z) (s:=s) (i:=s.size) (o:=o) w h)
   go_wp2_with fail;go_region;go_wp2_with (refine(aa fw _ ((aa HR).below (aW _ _).drew)).mono ?_;rintro e w ⟨rfl,rfl⟩;unfold aC);exact⟨rfl,fQ (aa HQ) ((aa HB).trans (But.of_below (aW _ _).drew)) rfl⟩
end Go.Proofs.YtlmnjbipfacniaaGreatDoor
