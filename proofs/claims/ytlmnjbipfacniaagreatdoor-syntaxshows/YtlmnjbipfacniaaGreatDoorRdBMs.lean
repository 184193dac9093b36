/- The writer of lines: names with commas between. What strings -/
import Derived.Test.YtlmnjbipfacniaaGreatDoorJoinLibMs
import Derived.Test.YtlmnjbipfacniaaGreatDoorPatBaseMs
import Derived.Test.YtlmnjbipfacniaaGreatDoorExFitsMs
import Derived.Test.YtlmnjbipfacniaaGreatDoorRdPlainMs
import Derived.Test.YtlmnjbipfacniaaGreatDoorLxPlainMs
import Derived.Test.YtlmnjbipfacniaaGreatDoorLexRepLibMs
import Derived.Recover
set_option maxHeartbeats 2000000
namespace Go.Proofs.YtlmnjbipfacniaaGreatDoor
open Go.Proofs.Tryz
open Go.RowKit
theorem BF:∀l:List ByteArray,Lib.join (l.map (·.data.toList)) [44]=ar (fj l)
 | []=>rfl
 | [x]=>by
  show x.data.toList++[]=x.data.toList++[];rfl
 | x::y::r=>by
  have ih:=BF (y::r);show x.data.toList++([44]++Lib.join ((y::r).map (·.data.toList)) [44])=ar (wd x::sg 44::fj (y::r))
  rw[ih,dq,dq];rfl
def tf (l:List ByteArray):ByteArray:=⟨(ar (fj l)).toArray⟩
theorem zN:∀l:List ByteArray,(∀x ∈ l,x.size≤16)→(ar (fj l)).length≤17 * l.length
 | [],_=>aw _
 | [x],h=>by
  have:=h x (by simp)
  show (x.data.toList++[]).length≤17;simp only[be,List.length_nil,eQ];omega
 | x::y::r,h=>by
  have h1:=h x (by simp)
  have ih:=zN (y::r) fun z hz=>h z (kH _ hz)
  show (x.data.toList++([44]++ar (fj (y::r)))).length≤_;rw[be,be,eQ,List.length_singleton];simp only[List.length_cons] at ih ⊢;omega
theorem Ee (N:NL) (w:World) (hN:N.In w) (hs:∀x ∈ N.l,x.size≤16) (hl:N.l.length≤8):Calls prog 44 #[N.v,.string ⟨#[44]⟩] w fun e w'=>e=.returned (.string (tf N.l))∧Below w.heap.size w w':=by
 obtain⟨xa,gb,ob,cap,l⟩:=N;have hs:∀x ∈ l,x.size≤16:=hs;have hl:l.length≤8:=hl;have bU:=zN l hs
 by_cases h0:l=[]
 ·subst h0
  refine(Tryz.strings_Join_none xa cap ⟨#[44]⟩ w).mono fun e w' q=> ?_
  obtain⟨rfl,rfl⟩:=q;exact⟨rfl,aV _ _⟩
 ·have hp:0 < l.length:=Ar.2 h0
  have l4:xa=some ⟨gb,ob,none⟩:=hN.at_ hp;subst l4;have hg:gb < w.heap.size:=da _ _ (hN.cell 0 l[0] (gT hp)).1;have:=Tryz.strings_Join gb ob cap l ⟨#[44]⟩ w (fun j x hx=>(hN.cell j x hx).1) hg (by omega) hN.cap (by
   show (Lib.join (l.map (·.data.toList)) [44]).length≤_
   rw[BF];omega)
  have e:Lib.join (l.map (·.data.toList)) (⟨#[44]⟩:ByteArray).data.toList=ar (fj l):=BF l
  rw[e] at this;exact this
open Go.RowKit
theorem JY (s:ByteArray) (w:World) (hs:s.size≤1000000):Calls prog 93 #[.string s] w fun e w'=>e=.returned (.string s)∧Below w.heap.size w w':=by
 go_enter func93,ntmps93;go_wp2_with (go_at_call 133;refine(Tryz.stringslite_Clone s _ (by omega)).mono ?_;rintro e w' ⟨rfl,hb⟩)
 go_ret;exact⟨rfl,hb⟩
open Go.RowKit
def cY (er:Int) (i:Nat):Value:=.agg #[.int .i64 er,.int .i64 (i:Int)]
def aC (er:Int) (i:Nat):Ending:=.panicked [{v:=.iface 36 (cY er i),recovered:=false}]
def bQ (w:World) (z:Nat) (s:ByteArray) (i:Nat) (o:Int):Prop:=w.heap[z]? =some (.cells #[.string s,.int .i64 (i:Int),.int .i64 o] 198 (0,0))
theorem bQ.c0 {w:World} {z:Nat} {s:ByteArray} {i:Nat} {o:Int} (h:bQ w z s i o):w.cell? ⟨z,0,none⟩=some (.string s):=cr h
theorem bQ.c1 {w:World} {z:Nat} {s:ByteArray} {i:Nat} {o:Int} (h:bQ w z s i o):w.cell? ⟨z,1,none⟩=some (.int .i64 (i:Int)):=cr h
theorem bQ.c2 {w:World} {z:Nat} {s:ByteArray} {i:Nat} {o:Int} (h:bQ w z s i o):w.cell? ⟨z,2,none⟩=some (.int .i64 o):=cr h
theorem bQ.fz {w:World} {z:Nat} {s:ByteArray} {i:Nat} {o:Int} (h:bQ w z s i o) (k:Nat):w.frozen? ⟨z,k,none⟩=false:=cN w z k _ _ h
theorem bQ.set1 {w:World} {z:Nat} {s:ByteArray} {i:Nat} {o:Int} (h:bQ w z s i o) (j:Nat):bQ (w.setCell ⟨z,1,none⟩ (.int .i64 (j:Int))) z s j o:=fB w z 1 _ _ _ h
theorem bQ.set2 {w:World} {z:Nat} {s:ByteArray} {i:Nat} {o:Int} (h:bQ w z s i o) (p:Int):bQ (w.setCell ⟨z,2,none⟩ (.int .i64 p)) z s i p:=fB w z 2 _ _ _ h
theorem bQ.below {w w':World} {z:Nat} {s:ByteArray} {i:Nat} {o:Int} (h:bQ w z s i o) (hb:Below w.heap.size w w'):bQ w' z s i o:=an h hb
theorem bQ.lt {w:World} {z:Nat} {s:ByteArray} {i:Nat} {o:Int} (h:bQ w z s i o):z < w.heap.size:=(bC.1 h).1
theorem wN (er:Int) (i:Nat) (w:World):Calls prog 179 #[.int .i64 er,.int .i64 (i:Int)] w fun e w'=>e=aC er i∧w'=w:=by
 go_enter func179,ntmps179;go_wp2;exact⟨rfl,rfl,rfl⟩
theorem uh {s:ByteArray} {i z:Nat} {o:Int} (w:World) (hR:bQ w z s i o):Calls prog 167 #[.pointer (some ⟨z,0,none⟩)] w fun e w'=>e=aC 2 i∧w'=w:=by
 have c1:=hR.c1;have HC:=ab (fun w=>wN 2 i w)
 clear hR;go_enter func167,ntmps167;go_wp2_with (refine(aa HC _).mono ?_;rintro e w ⟨rfl,rfl⟩;unfold aC);exact⟨rfl,rfl,rfl⟩
theorem zD {s:ByteArray} {i z:Nat} {o:Int} (w:World) (_hs:s.size≤65536) (hi:i≤s.size) (hR:bQ w z s i o):Calls prog 185 #[.pointer (some ⟨z,0,none⟩)] w fun e w'=>e=.returned (.int .u8 (aj s i:Int))∧Below w.heap.size w w':=by
 have c0:=hR.c0;have c1:=hR.c1;clear hR;have hd:w.drew.cell? ⟨z,0,none⟩=w.cell? ⟨z,0,none⟩:=rfl;rcases cG i s.size with h | h
 ·have h1:((i:Int)==(s.size:Int))=false:=bn
  have hb:=mw s i h;go_enter func185,ntmps185;go_wp2_with fail;go_region;go_wp2_with fail;go_region;go_wp2_with fail;go_ret;exact⟨rfl,((aV _ _).drew).drew⟩
 ·obtain rfl:i=s.size:=by omega
  have h1:((s.size:Int)==(s.size:Int))=true:=by rw[se]
  have hb:aj s s.size=0:=pM s _ h;rw[hb];go_enter func185,ntmps185;go_wp2_with fail;go_region;go_wp2_with fail;go_ret;exact⟨rfl,(aV _ _).drew⟩
def kC (w:World) (z:Nat):Nat:=match w.cell? ⟨z,1,none⟩ with | some (.int _ n)=>n.toNat | _=>0
theorem bQ.at {w:World} {z:Nat} {s:ByteArray} {i:Nat} {o:Int} (h:bQ w z s i o):kC w z=i:=by unfold kC;rw[h.c1];simp
theorem sU {s:ByteArray} {i z:Nat} {o:Int} (w:World) (hs:s.size≤65536) (hi:i≤s.size) (hR:bQ w z s i o):Calls prog 177 #[.pointer (some ⟨z,0,none⟩)] w fun e w'=>e=.returned (.int .u8 (nx s i:Int))∧But z w w'∧bQ w' z s (sk s i) o:=by
 have nL:=ab hR;clear hR;go_enter func177,ntmps177;go_wp2_with fail;go_loopw [] (fun wr=>∃k:Nat,k≤s.size∧Hid (bQ wr z s k o)∧Hid (But z w wr)∧Hid (sk s i=sk s k)) (fun wr=>s.size - kC wr z)
 case atStart=>exact⟨i,hi,aa nL,But.refl _ _,rfl⟩
 case round=>
  obtain⟨k,hk,HR,HB,HS⟩:=hrel;have HH:=ab (fun w h=>zD (z:=z) (o:=o) w hs hk h)
  have HM:=ab (aa HR).at
  by_cases iU:aj s k=32
  ·have au:k < s.size:=mv (by omega)
   have gQ:Hid (sk s k=sk s (k+1)):=ab (nT au (fk iU));rw[iU] at HH;clear iU;go_wp2_with fail;refine(aa HH _ (aa HR)).mono ?_;rintro e w2 ⟨rfl,hb⟩;have cX:=(aa HR).below hb;have c1:=cX.c1;have fz:=cX.fz 1;have H2:=ab cX;have aE:=ab ((aa HB).trans (But.of_below hb));clear cX hb;go_wp2_with fail;have oD:=ab ((aa H2).set1 (k+1));exact⟨⟨k+1,by omega,aa oD,(aa aE).setCell 1 _,by rw[aa HS,aa gQ];rfl⟩,by have h1:=aa HM;have h2:=(aa oD).at;simp only[Int.natCast_add,Int.cast_ofNat_Int] at h2;rw[h1];omega⟩
  ·have gQ:=ab (iY iU)
   have bi:((aj s k:Int)==32)=false:=bn;clear iU;go_wp2_with fail;refine(aa HH _ (aa HR)).mono ?_;rintro e w2 ⟨rfl,hb⟩;have H2:=ab ((aa HR).below hb);have aE:=ab ((aa HB).trans (But.of_below hb));clear hb;go_wp2_with fail;refine(aa HH _ (aa H2)).mono ?_;rintro e w3 ⟨rfl,hb⟩;have H3:=ab ((aa H2).below hb);have ao:=ab ((aa aE).trans (But.of_below hb));clear hb;go_wp2_with fail;go_ret;refine⟨?_,aa ao, ?_⟩
   ·unfold nx;rw[aa HS,aa gQ];rfl
   ·rw[aa HS,aa gQ];exact aa H3
theorem Bu {s:ByteArray} {i z:Nat} {o:Int} (c:Nat) (w:World) (hs:s.size≤65536) (hi:i≤s.size) (hR:bQ w z s i o) (hc:nx s i=c) (h0:c≠0):Calls prog 200 #[.pointer (some ⟨z,0,none⟩),.int .u8 (c:Int)] w fun e w'=>e=.returned (.tuple #[])∧But z w w'∧bQ w' z s (sk s i+1) o:=by
 have HN:=ab (sU w hs hi hR);have au:=kW (s:=s) (i:=i) (by omega)
 subst hc;generalize hk:sk s i=k at *;generalize nx s i=c at *;clear hR hk h0;go_enter func200,ntmps200;go_wp2_with fail;refine(aa HN).mono ?_;rintro e w2 ⟨rfl,hb,cX⟩;have c1:=cX.c1;have fz:=cX.fz 1;have H2:=ab cX;have HB:=ab hb;clear hb cX;go_wp2_with fail;go_end0;exact⟨rfl,(aa HB).setCell 1 _,(aa H2).set1 (k+1)⟩
theorem A8 {s:ByteArray} {i z:Nat} {o:Int} (c:Nat) (w:World) (hs:s.size≤65536) (hi:i≤s.size) (hR:bQ w z s i o) (hc:nx s i≠c):Calls prog 200 #[.pointer (some ⟨z,0,none⟩),.int .u8 (c:Int)] w fun e w'=>e=aC 2 (sk s i)∧But z w w':=by
 have HN:=ab (sU w hs hi hR);have bi:((nx s i:Int)==(c:Int))=false:=bn;clear hR hc;generalize sk s i=k at *;generalize nx s i=b at *;go_enter func200,ntmps200;go_wp2_with fail;refine(aa HN).mono ?_;rintro e w2 ⟨rfl,hb,cX⟩;have HB:=ab hb;have HS:=ab (uh w2 cX);clear hb cX;go_wp2_with (refine(aa HS).mono ?_;rintro e w ⟨rfl,rfl⟩;unfold aC);exact⟨rfl,rfl,aa HB⟩
def fR {α:Type} (V:α→Ending→World→Prop) (z:Nat) (s:ByteArray) (o:Int) (w:World) (R:Rd α) (e:Ending) (w':World):Prop:=
 But z w w'∧(match R with | .ok x=>V x.1 e w'∧bQ w' z s x.2 o | .error x=>e=aC x.1 x.2)
section
variable {α:Type} {V:α→Ending→World→Prop} {z:Nat} {s:ByteArray} {o:Int} {w w':World} {R:Rd α} {e:Ending}
theorem lA {a:α} {j:Nat} (h:R=.ok (a,j)) (hb:But z w w') (hv:V a e w') (hr:bQ w' z s j o):fR V z s o w R e w':=by subst h;exact⟨hb,hv,hr⟩
theorem fF {er:Int} {i:Nat} (h:R=.error (er,i)) (hb:But z w w') (he:e=aC er i):fR V z s o w R e w':=by subst h;exact⟨hb,he⟩
theorem js {a:α} {j:Nat} (h:fR V z s o w R e w') (hr:R=.ok (a,j)):But z w w'∧V a e w'∧bQ w' z s j o:=by subst hr;exact⟨h.1,h.2.1,h.2.2⟩
theorem jW {er:Int} {i:Nat} (h:fR V z s o w R e w') (hr:R=.error (er,i)):But z w w'∧e=aC er i:=by subst hr;exact h
end
def lE (t:ByteArray) (e:Ending) (_:World):Prop:=e=.returned (.string t)
def numV (n:Nat) (e:Ending) (_:World):Prop:=e=.returned (.int .i64 (n:Int))
open Go.RowKit
theorem wM {s:ByteArray} {i z:Nat} {o:Int} (w:World) (hs:s.size≤65536) (hi:i≤s.size) (hR:bQ w z s i o):Calls prog 196 #[.pointer (some ⟨z,0,none⟩)] w fun e w'=>e=.returned (.string (s.extract i (cn s i)))∧But z w w'∧bQ w' z s (cn s i) o:=by
 have nL:=ab hR;have c1:=hR.c1;clear hR;go_enter func196,ntmps196;go_wp2_with fail;clear c1;go_loopw [] (fun wr=>∃k:Nat,i≤k∧k≤s.size∧Hid (bQ wr z s k o)∧Hid (But z w wr)∧Hid (cn s i=cn s k)) (fun wr=>s.size - kC wr z)
 case atStart=>exact⟨i,aw _,hi,aa nL,But.refl _ _,rfl⟩
 case round=>
  obtain⟨k,hik,hk,HR,HB,HS⟩:=hrel;have HH:=ab (fun w h=>zD (z:=z) (o:=o) w hs hk h)
  have HL:=ab (sP (aj s k) (jY _ _));have HD:=ab (xJ (aj s k) (jY _ _));have HM:=ab (aa HR).at;have bL:=ab (fun h (q:dj (aj s k)=true∨cR (aj s k)=true)=>(show cn s k=cn s (k+1) from nT h (by unfold dB;rcases q with q | q <;> simp[q])))
  have ap:=ab (fun (q1:dj (aj s k)=false) (q2:cR (aj s k)=false)=>(show cn s k=k from oL fun _=>by unfold dB;simp[q1,q2]))
  have HI:=ab (fun (q:dj (aj s k)=true∨cR (aj s k)=true)=>show k < s.size from by
   by_cases h:k < s.size
   ·exact h
   ·rw[pM s k (by omega)] at q;exact absurd q (by decide))
  generalize aj s k=b at *
  cases h1:dj b
  ·cases h2:cR b
   ·have gQ:=ab (aa ap h1 h2)
    rw[h1] at HL;rw[h2] at HD;clear h1 h2 bL ap HI;go_wp2_with fail;refine(aa HH _ (aa HR)).mono ?_;rintro e w2 ⟨rfl,hb⟩;have H2:=ab ((aa HR).below hb);have aE:=ab ((aa HB).trans (But.of_below hb));clear hb;go_wp2_with fail;refine(aa HL _).mono ?_;rintro e w ⟨rfl,rfl⟩;go_wp2_with fail;refine(aa HH _ (aa H2)).mono ?_;rintro e w3 ⟨rfl,hb⟩;have H3:=ab ((aa H2).below hb);have ao:=ab ((aa aE).trans (But.of_below hb));clear hb;go_wp2_with fail;refine(aa HD _).mono ?_;rintro e w ⟨rfl,rfl⟩;have c0:=(aa H3).c0;have c1:=(aa H3).c1;have eN:(i:Int)≤(k:Int):=by omega
    go_wp2_with fail;go_region;go_wp2_with fail;go_ret;refine⟨?_,(aa ao).trans (But.of_below (aV _ _).drew), ?_⟩
    ·rw[aa HS,aa gQ];rfl
    ·rw[aa HS,aa gQ];exact(aa H3).below (aV _ _).drew
   ·have gQ:=ab (aa bL (aa HI (.inr h2)) (.inr h2))
    have au:=aa HI (.inr h2);rw[h1] at HL;rw[h2] at HD;clear h1 h2 bL ap HI;go_wp2_with fail;refine(aa HH _ (aa HR)).mono ?_;rintro e w2 ⟨rfl,hb⟩;have H2:=ab ((aa HR).below hb);have aE:=ab ((aa HB).trans (But.of_below hb));clear hb;go_wp2_with fail;refine(aa HL _).mono ?_;rintro e w ⟨rfl,rfl⟩;go_wp2_with fail;refine(aa HH _ (aa H2)).mono ?_;rintro e w3 ⟨rfl,hb⟩;have H3:=ab ((aa H2).below hb);have ao:=ab ((aa aE).trans (But.of_below hb));clear hb;go_wp2_with fail;refine(aa HD _).mono ?_;rintro e w ⟨rfl,rfl⟩;have c1:=(aa H3).c1;have fz:=(aa H3).fz 1;go_wp2_with fail;have oD:=ab ((aa H3).set1 (k+1));exact⟨⟨k+1,by omega,by omega,aa oD,(aa ao).setCell 1 _,by rw[aa HS,aa gQ];rfl⟩,by have h1:=aa HM;have h2:=(aa oD).at;simp only[Int.natCast_add,Int.cast_ofNat_Int] at h2;rw[h1];omega⟩
  ·have gQ:=ab (aa bL (aa HI (.inl h1)) (.inl h1))
   have au:=aa HI (.inl h1);rw[h1] at HL;clear h1 bL ap HI HD;go_wp2_with fail;refine(aa HH _ (aa HR)).mono ?_;rintro e w2 ⟨rfl,hb⟩;have H3:=ab ((aa HR).below hb);have ao:=ab ((aa HB).trans (But.of_below hb));clear hb;go_wp2_with fail;refine(aa HL _).mono ?_;rintro e w ⟨rfl,rfl⟩;have c1:=(aa H3).c1;have fz:=(aa H3).fz 1;go_wp2_with fail;have oD:=ab ((aa H3).set1 (k+1));exact⟨⟨k+1,by omega,by omega,aa oD,(aa ao).setCell 1 _,by rw[aa HS,aa gQ];rfl⟩,by have h1:=aa HM;have h2:=(aa oD).at;simp only[Int.natCast_add,Int.cast_ofNat_Int] at h2;rw[h1];omega⟩
theorem Lx (s:ByteArray) {i j:Nat} (_:i≤j) (hj:j≤s.size):(s.extract i j).size=j - i:=by rw[ByteArray.size_extract];omega
theorem D1 {s:ByteArray} {i z:Nat} {o:Int} (w:World) (hs:s.size≤65536) (hi:i≤s.size) (hR:bQ w z s i o):Calls prog 190 #[.pointer (some ⟨z,0,none⟩)] w fun e w'=>fR lE z s o w (ib s i) e w':=by
 have pb:=eG s i hi;have HN:=ab (sU w hs hi hR);have HL:=ab (sP (nx s i) (jY _ _));have HW:=ab (fun w h=>wM (z:=z) (o:=o) w hs pb.2 h)
 have HE:=ab (fun q=>rO (s:=s) (j:=sk s i) q)
 unfold ib;clear hR
 cases h1:dj (nx s i)
 ·rw[h1] at HL
  rw[ac (by decide)]
  show Calls _ _ _ _ fun e w'=>fR lE z s o w (.error (2,sk s i)) e w'
  clear h1 HE HW;generalize sk s i=k at *;generalize nx s i=b at *;go_enter func190,ntmps190;go_wp2_with fail;refine(aa HN).mono ?_;rintro e w2 ⟨rfl,hb,cX⟩;have HB:=ab hb;have HS:=ab (uh w2 cX);clear hb cX;go_wp2_with fail;refine(aa HL _).mono ?_;rintro e w2 ⟨rfl,rfl⟩;go_wp2_with (refine(aa HS).mono ?_;rintro e w ⟨rfl,rfl⟩;unfold aC);exact⟨rfl,fF rfl (aa HB) rfl⟩
 ·have hE:=aa HE h1
  have ay:=Lx s (Nat.le_of_lt hE.1) hE.2;rw[h1] at HL;rw[af rfl];clear h1 HE
  by_cases hq:16 < cn s (sk s i) - sk s i
  ·rw[af hq]
   show Calls _ _ _ _ fun e w'=>fR lE z s o w (.error (7,sk s i)) e w'
   have HT:=ab (fun w=>wN 7 (sk s i) w)
   have hg:(16:Int) < ((s.extract (sk s i) (cn s (sk s i))).size:Int):=by rw[ay];omega
   clear hq ay;generalize s.extract (sk s i) (cn s (sk s i))=t at *;generalize cn s (sk s i)=e2 at *;generalize sk s i=k at *;generalize nx s i=b at *;go_enter func190,ntmps190;go_wp2_with fail;refine(aa HN).mono ?_;rintro e w2 ⟨rfl,hb,cX⟩;have HB:=ab hb;have H2:=ab cX;have c1:=cX.c1;clear hb cX;go_wp2_with fail;refine(aa HL _).mono ?_;rintro e w2 ⟨rfl,rfl⟩;go_wp2_with fail;refine(aa HW _ (aa H2)).mono ?_;rintro e w3 ⟨rfl,hb,hR3⟩;have ao:=ab ((aa HB).trans hb);clear hb hR3 c1;go_wp2_with (refine(aa HT _).mono ?_;rintro e w ⟨rfl,rfl⟩;unfold aC);exact⟨rfl,fF rfl (aa ao) rfl⟩
  ·rw[ac hq]
   show Calls _ _ _ _ fun e w'=>fR lE z s o w (.ok (s.extract (sk s i) (cn s (sk s i)),cn s (sk s i))) e w'
   have HC:=ab (fun w=>JY (s.extract (sk s i) (cn s (sk s i))) w (by rw[ay];omega))
   have hg:¬(16:Int) < ((s.extract (sk s i) (cn s (sk s i))).size:Int):=by rw[ay];omega
   clear hq ay;generalize s.extract (sk s i) (cn s (sk s i))=t at *;generalize cn s (sk s i)=e2 at *;generalize sk s i=k at *;generalize nx s i=b at *;go_enter func190,ntmps190;go_wp2_with fail;refine(aa HN).mono ?_;rintro e w2 ⟨rfl,hb,cX⟩;have HB:=ab hb;have H2:=ab cX;have c1:=cX.c1;clear hb cX;go_wp2_with fail;refine(aa HL _).mono ?_;rintro e w2 ⟨rfl,rfl⟩;go_wp2_with fail;refine(aa HW _ (aa H2)).mono ?_;rintro e w3 ⟨rfl,hb,hR3⟩;have ao:=ab ((aa HB).trans hb);have H3:=ab hR3;clear hb hR3 c1;go_wp2_with fail;refine(aa HC _).mono ?_;rintro e w4 ⟨rfl,hb⟩;have dD:=ab ((aa ao).trans (But.of_below hb));have H4:=ab ((aa H3).below hb);clear hb;go_wp2_with fail;go_ret;exact lA rfl (aa dD) rfl (aa H4)
end Go.Proofs.YtlmnjbipfacniaaGreatDoor
