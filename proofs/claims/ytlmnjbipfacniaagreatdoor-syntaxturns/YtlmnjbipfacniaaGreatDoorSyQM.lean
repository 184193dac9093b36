/- The reader of lines: a label in brackets; a statement in mem -/
import Derived.Test.YtlmnjbipfacniaaGreatDoorSyKM
set_option maxRecDepth 100000
set_option maxHeartbeats 16000000
namespace Go.Proofs.YtlmnjbipfacniaaGreatDoor
open Go.Proofs.Tryz
open Go.RowKit
theorem IS {C:SyC} {l:List Tk} {o:Nat} (w:World) (hR:Syr C w l o):Calls prog 105 #[.pointer (some ⟨C.z,0,none⟩)] w fun e w'=>fV lD C o w (jS C.E l) e w'∧∀t r,jS C.E l=.ok (t,r)→t.size≤2000:=by
 have fq:=ab (sJ (ah 40) w hR);have qd:=ab (fun w l h=>sJ (C:=C) (l:=l) (o:=o) (ah 41) w h)
 have fY:=ab (fun w l h=>vP (C:=C) (l:=l) (o:=o) w h)
 obtain⟨RR,bM⟩:∃RR,RR=jS C.E l:=⟨_,rfl⟩;rw[←bM];have HQ:Hid (RR=aR (ee C.E (ah 40) l) fun _ r=>aR (dO C.E r) fun t q=>aR (ee C.E (ah 41) q) fun _ m=>.ok (t,m)):=ab (bM)
 clear hR bM;unfold ah at fq qd HQ;go_enter func105,ntmps105;go_wp2_with fail;refine(aa fq).mono ?_;intro e w1 hp
 cases hq:ee C.E ⟨#[40]⟩ l with
 | error x=>
  obtain⟨er,i⟩:=x;obtain⟨hb1,rfl⟩:=dB hp hq;have bf:=ab hb1;have aS:Hid (RR=.error (er,i)):=ab (by rw[aa HQ,hq,dn])
  clear hp hb1 hq;unfold aC;go_wp2_with fail;exact⟨rfl,fH (aa aS) (aa bf) rfl,fun t r h=>by rw[aa aS] at h;cases h⟩
 | ok x=>
  obtain⟨xu,r⟩:=x;obtain⟨hb1,rfl,hR1⟩:=dC hp hq;have bf:=ab hb1;have aS:Hid (RR=aR (dO C.E r) fun t q=>aR (ee C.E ⟨#[41]⟩ q) fun _ m=>.ok (t,m)):=ab (by rw[aa HQ,hq,aT])
  have HNM1:=ab (aa fY w1 r hR1);have eE:=ab (fun t q h=>oD (t:=t) (r:=q) hR1 h)
  clear hp hb1 hq hR1 fY fq HQ;go_wp2_with fail;refine(aa HNM1).mono ?_;intro e w2 hp
  cases hq:dO C.E r with
  | error x=>
   obtain⟨er,i⟩:=x;obtain⟨hb2,rfl⟩:=dB hp hq;have aF:=ab ((aa bf).trans hb2);have bK:Hid (RR=.error (er,i)):=ab (by rw[aa aS,hq,dn])
   clear hp hb2 hq;unfold aC;go_wp2_with fail;exact⟨rfl,fH (aa bK) (aa aF) rfl,fun t r h=>by rw[aa bK] at h;cases h⟩
  | ok x=>
   obtain⟨t,q⟩:=x;obtain⟨hb2,rfl,db⟩:=dC hp hq;have aF:=ab ((aa bf).trans hb2);have HT:=ab (aa eE t q hq);have bK:Hid (RR=aR (ee C.E ⟨#[41]⟩ q) fun _ m=>.ok (t,m)):=ab (by rw[aa aS,hq,aT])
   have HN3:=ab (aa qd w2 q db);clear hp hb2 hq db qd HNM1 eE aS;go_wp2_with fail;refine(aa HN3).mono ?_;intro e w3 hp
   cases hq:ee C.E ⟨#[41]⟩ q with
   | error x=>
    obtain⟨er,i⟩:=x;obtain⟨hb3,rfl⟩:=dB hp hq;have aq:=ab ((aa aF).trans hb3);have dJ:Hid (RR=.error (er,i)):=ab (by rw[aa bK,hq,dn])
    clear hp hb3 hq;unfold aC;go_wp2_with fail;exact⟨rfl,fH (aa dJ) (aa aq) rfl,fun t r h=>by rw[aa dJ] at h;cases h⟩
   | ok x=>
    obtain⟨xu2,m⟩:=x;obtain⟨hb3,rfl,hR3⟩:=dC hp hq;have HZ:=ab (And.intro ((aa aF).trans hb3) hR3);have dJ:Hid (RR=.ok (t,m)):=ab (by rw[aa bK,hq,aT])
    clear hp hb3 hq hR3;go_wp2_with fail;go_ret;exact⟨nI (aa dJ) (aa HZ).1 rfl (aa HZ).2,fun t' r' h=>by rw[aa dJ] at h;injection h with h;injection h with h _;rw[←h];exact aa HT⟩
def BoxS (s:Nat) (w:World):Prop:=∃C:Array Value,w.heap[s]? =some (.cells C 30 (0,0))∧C.size=24∧C.all (·.oneCell')=true
structure But2 (z s:Nat) (w w':World):Prop where
 os:w'.os=w.os
 tape:w'.tape=w.tape
 output:w'.output=w.output
 size:w.heap.size≤w'.heap.size
 block:∀k,k < w.heap.size→k≠z→k≠s→w'.heap[k]? =w.heap[k]?
 box:s≠z→BoxS s w→BoxS s w'
theorem But2.of {z s:Nat} {w w':World} (h:But z w w'):But2 z s w w':=⟨h.os,h.tape,h.output,h.size,fun k h1 h2 _=>h.block k h1 h2,fun hn ⟨C,h1,h2,h3⟩=>⟨C,(h.block s (bC.1 h1).1 hn).trans h1,h2,h3⟩⟩
theorem But2.trans {z s:Nat} {a b c:World} (h:But2 z s a b) (k:But2 z s b c):But2 z s a c:=
 ⟨k.os.trans h.os,k.tape.trans h.tape,k.output.trans h.output,bJ h.size k.size,fun i h1 h2 h3=>(k.block i (i6 h1 h.size) h2 h3).trans (h.block i h1 h2 h3),fun hn q=>k.box hn (h.box hn q)⟩
theorem But2.set {z s:Nat} {a b:World} (h:But2 z s a b) (k:Nat) (v:Value) (hv:v.oneCell'=true:=by rfl):But2 z s a (b.setCell ⟨s,k,none⟩ v):=
 ⟨h.os,h.tape,h.output,by rw[nV];exact h.size,fun i h1 h2 h3=>(dm b ⟨s,k,none⟩ i v h3).trans (h.block i h1 h2 h3),fun hn q=>by
  obtain⟨C,h1,h2,h3⟩:=h.box hn q;refine⟨C.setIfInBounds k v,fK b s k _ _ v h1,by rw[Array.size_setIfInBounds];exact h2, ?_⟩
  rw[Array.all_eq_true'] at h3 ⊢;intro u hu;rcases Array.mem_or_eq_of_mem_setIfInBounds hu with q | q
  ·exact h3 u q
  ·rw[q];exact hv⟩
structure StIn (B sb:Nat) (w:World) (S P:SV):Prop where
 box:w.heap[sb]? =some (.cells S.cells 30 (0,0))
 can:S.can=P
 txt:S.lab.size≤2000∧S.nm.size≤2000∧S.en.size≤2000∧S.al.size≤2000∧S.ye.size≤2000∧S.no.size≤2000
 tg:bd B w S.tg
 va:bd B w S.va
 pa:bd B w S.pa
 ps:lC B w S.ps
 ls:lC B w S.ls
theorem lC.step {B:Nat} {w w':World} {N:NL} (h:lC B w N) (hs:w.heap.size≤w'.heap.size) (hb:∀i,B≤i→i < w.heap.size→w'.heap[i]? =w.heap[i]?):lC B w' N:=
 fun X hX=>h X fun i h1 h2=>(hX i h1 (by omega)).trans (hb i h1 h2)
section
variable {B sb:Nat} {w w':World} {S P:SV}
theorem StIn.next (h:StIn B sb w S P) (hx:w'.heap[sb]? =some (.cells S.cells 30 (0,0))) (hs:w.heap.size≤w'.heap.size) (hb:∀i,B≤i→i < w.heap.size→w'.heap[i]? =w.heap[i]?):StIn B sb w' S P:=
 ⟨hx,h.can,h.txt,h.tg.step hs hb,h.va.step hs hb,h.pa.step hs hb,h.ps.step hs hb,h.ls.step hs hb⟩
theorem StIn.but {z:Nat} (h:StIn B sb w S P) (hb:But z w w') (hz:z < B) (bo:sb≠z):StIn B sb w' S P:=h.next (hb.row bo h.box) hb.size fun i h1 h2=>hb.block i h2 (by omega)
theorem StIn.below (h:StIn B sb w S P) (hb:Below w.heap.size w w'):StIn B sb w' S P:=h.next (am h.box hb) hb.size fun i _ h2=>hb.block i h2
theorem StIn.fz (h:StIn B sb w S P) (k:Nat):w.frozen? ⟨sb,k,none⟩=false:=cT w sb k _ _ h.box
theorem StIn.cell (h:StIn B sb w S P) {k:Nat} {v:Value} (hv:S.cells[k]? =some v):w.cell? ⟨sb,k,none⟩=some v:=by rw[eX _ _ _ _ _ _ h.box];exact hv
theorem StIn.put {S' P':SV} {k:Nat} {v:Value} (h:StIn B sb w S P) (hsb:sb < B) (hc:S.cells.setIfInBounds k v=S'.cells) (cE:S'.can=P') (ht:S'.lab.size≤2000∧S'.nm.size≤2000∧S'.en.size≤2000∧S'.al.size≤2000∧S'.ye.size≤2000∧S'.no.size≤2000)
  (h1:S'.tg=S.tg) (h2:S'.va=S.va) (h3:S'.pa=S.pa) (h4:S'.ps=S.ps) (h5:S'.ls=S.ls):StIn B sb (w.setCell ⟨sb,k,none⟩ v) S' P':=by
 have hs:w.heap.size≤(w.setCell ⟨sb,k,none⟩ v).heap.size:=by rw[nV];exact ax _
 have hb:∀i,B≤i→i < w.heap.size→(w.setCell ⟨sb,k,none⟩ v).heap[i]? =w.heap[i]? :=fun i h1 _=>dm w ⟨sb,k,none⟩ i v (by show i≠sb;omega)
 refine⟨?_,cE,ht,by rw[h1];exact h.tg.step hs hb,by rw[h2];exact h.va.step hs hb,by rw[h3];exact h.pa.step hs hb,by rw[h4];exact h.ps.step hs hb,by rw[h5];exact h.ls.step hs hb⟩
 rw[←hc];exact fK w sb k _ _ v h.box
end
def iK (C:SyC) (o B sb:Nat) (w:World) (R:Sy SV) (e:Ending) (w':World):Prop:=
 But2 C.z sb w w'∧(match R with | .ok x=>e=.returned (.tuple #[])∧Syr C w' x.2 o∧∃S,StIn B sb w' S x.1 | .error x=>e=aC x.1 x.2)
section
variable {C:SyC} {o B sb:Nat} {w w':World} {R:Sy SV} {e:Ending}
theorem wL {S P:SV} {j:List Tk} (h:R=.ok (P,j)) (hb:But2 C.z sb w w') (he:e=.returned (.tuple #[])) (hr:Syr C w' j o) (hs:StIn B sb w' S P):iK C o B sb w R e w':=by subst h;exact⟨hb,he,hr,S,hs⟩
theorem fA {er:Int} {i:Nat} (h:R=.error (er,i)) (hb:But2 C.z sb w w') (he:e=aC er i):iK C o B sb w R e w':=by subst h;exact⟨hb,he⟩
theorem ys {P:SV} {j:List Tk} (h:iK C o B sb w R e w') (hr:R=.ok (P,j)):But2 C.z sb w w'∧e=.returned (.tuple #[])∧Syr C w' j o∧∃S,StIn B sb w' S P:=by subst hr;exact⟨h.1,h.2.1,h.2.2.1,h.2.2.2⟩
theorem yf {er:Int} {i:Nat} (h:iK C o B sb w R e w') (hr:R=.error (er,i)):But2 C.z sb w w'∧e=aC er i:=by subst hr;exact h
end
structure SyS (C:SyC) (B sb:Nat):Prop where
 z:C.z < B
 s:sb < B
 ne:sb≠C.z
 ng:sb≠C.g
 nb:sb≠C.bb
theorem Syr.stm {C:SyC} {w:World} {l:List Tk} {o B sb k:Nat} {v:Value} (h:Syr C w l o) (hS:SyS C B sb):Syr C (w.setCell ⟨sb,k,none⟩ v) l o:=
 h.same (dm w ⟨sb,k,none⟩ _ v (Ne.symm hS.ne)) (dm w ⟨sb,k,none⟩ _ v (Ne.symm hS.ng)) (dm w ⟨sb,k,none⟩ _ v (Ne.symm hS.nb))
open Go.RowKit
theorem Ck {E:Nat} {l:List Tk} {s:ByteArray} (h:fW (ak E 0 l) s=true):l≠[]:=by
 rintro rfl
 revert h
 exact(fun h=>by unfold fW ak at h;simp at h)
section
variable {E:Nat} {S:SV} {l r:List Tk} {t:ByteArray}
theorem KH (h:aM (ak E 0 l) (ah 58)=false):ge E S l=.ok (S,l):=by unfold ge;rw[ac (by rw[h];decide)]
theorem wyS_al (h:aM (ak E 0 l) (ah 58)=true) (h1:aM (ak E 0 l.tail) (ah 40)=true):ge E S l=aR (jS E l.tail) fun t r=>.ok ({S with al:=t},r):=by unfold ge;rw[af h,af h1]
theorem wyS_ye (h:aM (ak E 0 l) (ah 58)=true) (h1:aM (ak E 0 l.tail) (ah 40)=false) (h2:fW (ak E 0 l.tail) (ah 83)=true):ge E S l=aR (jS E l.tail.tail) fun t r=>mA E true {S with ye:=t} r:=by unfold ge;rw[af h,ac (by rw[h1];decide),af h2]
theorem wyS_no (h:aM (ak E 0 l) (ah 58)=true) (h1:aM (ak E 0 l.tail) (ah 40)=false) (h2:fW (ak E 0 l.tail) (ah 83)=false):ge E S l=mA E false S l.tail:=by unfold ge;rw[af h,ac (by rw[h1];decide),ac (by rw[h2];decide)]
theorem GT {y:Bool} (h:fW (ak E 0 l) (ah 70)=true):mA E y S l=aR (jS E l.tail) fun t r=>.ok ({S with no:=t},r):=by unfold mA;rw[af h]
theorem Mv (h:fW (ak E 0 l) (ah 70)=false):mA E true S l=.ok (S,l):=by unfold mA;rw[ac (by rw[h];decide),af rfl]
theorem Mw (h:fW (ak E 0 l) (ah 70)=false):mA E false S l=.error (2,(ak E 0 l).a):=by unfold mA;rw[ac (by rw[h];decide),ac (by decide)]
end
structure StR (C:SyC) (o B sb:Nat) (w W:World) (l:List Tk) (S P:SV):Prop where
 but:But2 C.z sb w W
 rdr:Syr C W l o
 stm:StIn B sb W S P
section
variable {C:SyC} {o B sb:Nat} {w W W':World} {l l':List Tk} {S P:SV}
theorem StR.next (h:StR C o B sb w W l S P) (hS:SyS C B sb) (hb:But C.z W W') (hR:Syr C W' l' o):StR C o B sb w W' l' S P:=⟨h.but.trans (But2.of hb),hR,h.stm.but hb hS.z hS.ne⟩
theorem StR.below (h:StR C o B sb w W l S P) (hb:Below W.heap.size W W'):StR C o B sb w W' l S P:=⟨h.but.trans (But2.of (But.of_below hb)),h.rdr.below hb,h.stm.below hb⟩
theorem But2.refl (z s:Nat) (w:World):But2 z s w w:=⟨rfl,rfl,rfl,ax _,fun _ _ _ _=>rfl,fun _ q=>q⟩
theorem StR.al (h:StR C o B sb w W l S P) (hS:SyS C B sb) {t:ByteArray} (ht:t.size≤2000):StR C o B sb w (W.setCell ⟨sb,21,none⟩ (.string t)) l {S with al:=t} {P with al:=t}:=
 ⟨h.but.set _ _,h.rdr.stm hS,h.stm.put hS.s rfl (by rw[←h.stm.can];rfl) ⟨h.stm.txt.1,h.stm.txt.2.1,h.stm.txt.2.2.1,ht,h.stm.txt.2.2.2.2.1,h.stm.txt.2.2.2.2.2⟩ rfl rfl rfl rfl rfl⟩
theorem StR.ye (h:StR C o B sb w W l S P) (hS:SyS C B sb) {t:ByteArray} (ht:t.size≤2000):StR C o B sb w (W.setCell ⟨sb,22,none⟩ (.string t)) l {S with ye:=t} {P with ye:=t}:=
 ⟨h.but.set _ _,h.rdr.stm hS,h.stm.put hS.s rfl (by rw[←h.stm.can];rfl) ⟨h.stm.txt.1,h.stm.txt.2.1,h.stm.txt.2.2.1,h.stm.txt.2.2.2.1,ht,h.stm.txt.2.2.2.2.2⟩ rfl rfl rfl rfl rfl⟩
theorem StR.no (h:StR C o B sb w W l S P) (hS:SyS C B sb) {t:ByteArray} (ht:t.size≤2000):StR C o B sb w (W.setCell ⟨sb,23,none⟩ (.string t)) l {S with no:=t} {P with no:=t}:=
 ⟨h.but.set _ _,h.rdr.stm hS,h.stm.put hS.s rfl (by rw[←h.stm.can];rfl) ⟨h.stm.txt.1,h.stm.txt.2.1,h.stm.txt.2.2.1,h.stm.txt.2.2.2.1,h.stm.txt.2.2.2.2.1,ht⟩ rfl rfl rfl rfl rfl⟩
theorem StR.done {RR:Sy SV} (h:StR C o B sb w W l S P) (hq:RR=.ok (P,l)):iK C o B sb w RR (.returned (.tuple #[])) W:=wL hq h.but rfl h.rdr h.stm
end
theorem zc {C:SyC} {l:List Tk} {o B sb:Nat} {S P:SV} (w:World) (hS:SyS C B sb) (hR:Syr C w l o) (hI:StIn B sb w S P):Calls prog 55 #[.pointer (some ⟨C.z,0,none⟩),.pointer (some ⟨sb,0,none⟩)] w fun e w'=>iK C o B sb w (ge C.E P l) e w':=by
 have H0:Hid (StR C o B sb w w l S P):=ab (⟨But2.refl _ _ _,hR,hI⟩);have HS:=ab hS;have gM:=ab (fun w l h=>rp (C:=C) (l:=l) (o:=o) w h)
 have oT:=ab (fun w l h=>IS (C:=C) (l:=l) (o:=o) w h)
 have rd:=ab (fun w l h (q:l≠[])=>un (C:=C) (l:=l) (o:=o) w h q)
 have fw:=ab (fun w l h=>rq (C:=C) (l:=l) (o:=o) w h)
 obtain⟨RR,bM⟩:∃RR,RR=ge C.E P l:=⟨_,rfl⟩;rw[←bM];have HQ:=ab bM;clear hR hI hS bM
 cases h1:aM (ak C.E 0 l) (ah 58)
 ·have HC:=ab (pr (ah 58) w (aa H0).rdr h1)
  have bQ:Hid (RR=.ok (P,l)):=ab (by rw[aa HQ];exact KH h1)
  clear HQ h1 gM oT rd fw;unfold ah at HC;go_enter func55,ntmps55;go_wp2_with fail;refine(aa HC).mono ?_;rintro e w1 ⟨rfl,hb1⟩;have H1:=ab ((aa H0).below hb1);clear hb1;go_wp2_with fail;refine ck (results_none rfl _ _ _) rfl ?_;exact(aa H1).done (aa bQ)
 ·have HC:=ab (pq (ah 58) w (aa H0).rdr h1)
  have bQ:=ab (fun h2=>(aa HQ).trans (wyS_al (S:=P) h1 h2))
  have aS:=ab (fun h2 h3=>(aa HQ).trans (wyS_ye (S:=P) h1 h2 h3))
  have bK:=ab (fun h2 h3=>(aa HQ).trans (wyS_no (S:=P) h1 h2 h3))
  clear HQ h1;unfold ah at HC bQ aS bK;have HL:=ab (Eq.refl l.tail);generalize l.tail=l1 at *;have fu:=ab (fun w=>um (ak C.E 0 l1) ⟨#[40]⟩ w)
  have sC:=ab (fun w=>zm (ak C.E 0 l1) ⟨#[83]⟩ w)
  have sq:=ab (fun w h=>aa gM w l1 h)
  generalize htv:jC (ak C.E 0 l1)=tv at *;clear htv;go_enter func55,ntmps55;go_wp2_with fail;refine(aa HC).mono ?_;rintro e w1 ⟨rfl,hb1,hR1⟩;have H1:=ab ((aa H0).next (aa HS) hb1 hR1);have oX:=ab (aa sq w1 hR1);clear hb1 hR1 HC;go_wp2_with fail;refine(aa oX).mono ?_;rintro e w2 ⟨rfl,hb2⟩;have H2:=ab ((aa H1).below hb2);clear hb2 oX
  cases h2:aM (ak C.E 0 l1) ⟨#[40]⟩
  ·rw[h2] at fu
   have aS:=ab (aa aS h2);have bK:=ab (aa bK h2);clear h2 bQ;go_wp2_with fail;refine(aa fu _).mono ?_;rintro e w3 ⟨rfl,hb3⟩;have H3:=ab ((aa H2).below hb3);have tU:=ab (aa sq w3 (aa H3).rdr);clear hb3 fu;go_wp2_with fail;refine(aa tU).mono ?_;rintro e w4 ⟨rfl,hb4⟩;have H4:=ab ((aa H3).below hb4);clear hb4 tU
   cases h3:fW (ak C.E 0 l1) ⟨#[83]⟩
   ·rw[h3] at sC
    have dJ:=ab (aa bK h3);clear h3 aS bK;go_wp2_with fail;refine(aa sC _).mono ?_;rintro e w5 ⟨rfl,hb5⟩;have H5:=ab ((aa H4).below hb5);clear hb5 sC;go_wp2_with fail;have pg:=ab (fun w=>zm (ak C.E 0 l1) ⟨#[70]⟩ w)
    have HT8:=ab (aa gM _ l1 (aa H5).rdr);generalize htv:jC (ak C.E 0 l1)=tv2 at *;clear htv;refine(aa HT8).mono ?_;rintro e w8 ⟨rfl,jt⟩;have H8:=ab ((aa H5).below jt);clear jt HT8
    cases h8:fW (ak C.E 0 l1) ⟨#[70]⟩
    ·rw[h8] at pg
     have eq:Hid (RR=.error (2,(ak C.E 0 l1).a)):=ab ((aa dJ).trans (Mw h8));clear h8;go_wp2_with fail;refine(aa pg _).mono ?_;rintro e w9 ⟨rfl,hb9⟩;have H9:=ab ((aa H8).below hb9);have HT9:=ab (aa fw w9 l1 (aa H9).rdr);clear hb9 pg;generalize (ak C.E 0 l1).a=ae at *;go_wp2_with fail;refine(aa HT9).mono ?_;rintro e lL ⟨rfl,vc⟩;have iI:=ab ((aa H9).below vc);clear vc;unfold aC;go_wp2_with fail;exact⟨rfl,fA (aa eq) (aa iI).but rfl⟩
    ·rw[h8] at pg
     have HNE8:=ab (Ck h8);have dJ:=ab ((aa dJ).trans (GT h8));clear h8;go_wp2_with fail;refine(aa pg _).mono ?_;rintro e w9 ⟨rfl,hb9⟩;have H9:=ab ((aa H8).below hb9);have sw:=ab (aa rd w9 l1 (aa H9).rdr (aa HNE8));clear hb9 pg;go_wp2_with fail;refine(aa sw).mono ?_;rintro e lL ⟨rfl,vc,wz⟩;have iI:=ab ((aa H9).next (aa HS) vc wz);have HW10:=ab (aa oT lL l1.tail wz);clear vc wz sw;go_wp2_with fail;refine(aa HW10).mono ?_;rintro e w7 ⟨hp,ay⟩
     cases hq:jS C.E l1.tail with
     | error x=>
      obtain⟨er,i⟩:=x;obtain⟨hb7,rfl⟩:=dB hp hq;have kC:=ab ((aa iI).but.trans (But2.of hb7));have eq:Hid (RR=.error (er,i)):=ab (by rw[aa dJ,hq,dn])
      clear hp hb7 hq ay;unfold aC;go_wp2_with fail;exact⟨rfl,fA (aa eq) (aa kC) rfl⟩
     | ok x=>
      obtain⟨t2,r2⟩:=x;have yP:=ay t2 r2 hq;obtain⟨hb7,rfl,hR7⟩:=dC hp hq;have h7:=(aa iI).next (aa HS) hb7 hR7;have nA:=h7.stm.cell (k:=23) (show (S).cells[23]? =some (.string (S).no) from rfl);have f22:=h7.stm.fz 23;have H8:=ab (h7.no (aa HS) yP);have eq:Hid (RR=.ok ({P with no:=t2},r2)):=ab (by rw[aa dJ,hq,aT])
      clear hp hb7 hq ay hR7 h7;go_wp2_with fail
      (first | go_end0 | refine ck (results_none rfl _ _ _) rfl ?_)
      exact(aa H8).done (aa eq)
   ·rw[h3] at sC
    have rf:=ab (Ck h3);have dJ:=ab (aa aS h3);clear h3 aS bK;go_wp2_with fail;refine(aa sC _).mono ?_;rintro e w5 ⟨rfl,hb5⟩;have H5:=ab ((aa H4).below hb5);have kR:=ab (aa rd w5 l1 (aa H5).rdr (aa rf));clear hb5 sC;go_wp2_with fail;refine(aa kR).mono ?_;rintro e w6 ⟨rfl,hb6,hR6⟩;have H6:=ab ((aa H5).next (aa HS) hb6 hR6);have HW6:=ab (aa oT w6 l1.tail hR6);clear hb6 hR6 kR;go_wp2_with fail;refine(aa HW6).mono ?_;rintro e w7 ⟨hp,ay⟩
    cases hq:jS C.E l1.tail with
    | error x=>
     obtain⟨er,i⟩:=x;obtain⟨hb7,rfl⟩:=dB hp hq;have kC:=ab ((aa H6).but.trans (But2.of hb7));have eq:Hid (RR=.error (er,i)):=ab (by rw[aa dJ,hq,dn])
     clear hp hb7 hq ay;unfold aC;go_wp2_with fail;exact⟨rfl,fA (aa eq) (aa kC) rfl⟩
    | ok x=>
     obtain⟨t,r⟩:=x;have ja:=ay t r hq;obtain⟨hb7,rfl,hR7⟩:=dC hp hq;have h7:=(aa H6).next (aa HS) hb7 hR7;have nA:=h7.stm.cell (k:=22) (show S.cells[22]? =some (.string S.ye) from rfl);have f22:=h7.stm.fz 22;have H5:=ab (h7.ye (aa HS) ja);have dJ:Hid (RR=mA C.E true {P with ye:=t} r):=ab (by rw[aa dJ,hq,aT])
     clear hp hb7 hq ay hR7 h7 HW6 H6;go_wp2_with fail;clear nA f22;have pg:=ab (fun w=>zm (ak C.E 0 r) ⟨#[70]⟩ w)
     have HT8:=ab (aa gM _ r (aa H5).rdr);generalize htv:jC (ak C.E 0 r)=tv2 at *;clear htv;refine(aa HT8).mono ?_;rintro e w8 ⟨rfl,jt⟩;have H8:=ab ((aa H5).below jt);clear jt HT8
     cases h8:fW (ak C.E 0 r) ⟨#[70]⟩
     ·rw[h8] at pg
      have eq:Hid (RR=.ok (_,r)):=ab ((aa dJ).trans (Mv h8));clear h8;go_wp2_with fail;refine(aa pg _).mono ?_;rintro e w9 ⟨rfl,hb9⟩;have H9:=ab ((aa H8).below hb9);clear hb9 pg;go_wp2_with fail
      (first | go_end0 | refine ck (results_none rfl _ _ _) rfl ?_)
      exact(aa H9).done (aa eq)
     ·rw[h8] at pg
      have HNE8:=ab (Ck h8);have dJ:=ab ((aa dJ).trans (GT h8));clear h8;go_wp2_with fail;refine(aa pg _).mono ?_;rintro e w9 ⟨rfl,hb9⟩;have H9:=ab ((aa H8).below hb9);have sw:=ab (aa rd w9 r (aa H9).rdr (aa HNE8));clear hb9 pg;go_wp2_with fail;refine(aa sw).mono ?_;rintro e lL ⟨rfl,vc,wz⟩;have iI:=ab ((aa H9).next (aa HS) vc wz);have HW10:=ab (aa oT lL r.tail wz);clear vc wz sw;go_wp2_with fail;refine(aa HW10).mono ?_;rintro e w7 ⟨hp,ay⟩
      cases hq:jS C.E r.tail with
      | error x=>
       obtain⟨er,i⟩:=x;obtain⟨hb7,rfl⟩:=dB hp hq;have kC:=ab ((aa iI).but.trans (But2.of hb7));have eq:Hid (RR=.error (er,i)):=ab (by rw[aa dJ,hq,dn])
       clear hp hb7 hq ay;unfold aC;go_wp2_with fail;exact⟨rfl,fA (aa eq) (aa kC) rfl⟩
      | ok x=>
       obtain⟨t2,r2⟩:=x;have yP:=ay t2 r2 hq;obtain⟨hb7,rfl,hR7⟩:=dC hp hq;have h7:=(aa iI).next (aa HS) hb7 hR7;have nA:=h7.stm.cell (k:=23) (show ({S with ye:=t}).cells[23]? =some (.string ({S with ye:=t}).no) from rfl)
       have f22:=h7.stm.fz 23;have H8:=ab (h7.no (aa HS) yP);have eq:Hid (RR=.ok ({{P with ye:=t} with no:=t2},r2)):=ab (by rw[aa dJ,hq,aT])
       clear hp hb7 hq ay hR7 h7;go_wp2_with fail
       (first | go_end0 | refine ck (results_none rfl _ _ _) rfl ?_)
       exact(aa H8).done (aa eq)
  ·rw[h2] at fu
   have dJ:=ab (aa bQ h2);have HW:=ab (fun w h=>aa oT w l1 h)
   clear h2 bQ aS bK sC rd fw gM oT;go_wp2_with fail;refine(aa fu _).mono ?_;rintro e w3 ⟨rfl,hb3⟩;have H3:=ab ((aa H2).below hb3);have dZ:=ab (aa HW w3 (aa H3).rdr);clear hb3 fu HW;go_wp2_with fail;refine(aa dZ).mono ?_;rintro e w7 ⟨hp,ay⟩
   cases hq:jS C.E l1 with
   | error x=>
    obtain⟨er,i⟩:=x;obtain⟨hb7,rfl⟩:=dB hp hq;have kC:=ab ((aa H3).but.trans (But2.of hb7));have eq:Hid (RR=.error (er,i)):=ab (by rw[aa dJ,hq,dn])
    clear hp hb7 hq ay;unfold aC;go_wp2_with fail;exact⟨rfl,fA (aa eq) (aa kC) rfl⟩
   | ok x=>
    obtain⟨t2,r2⟩:=x;have yP:=ay t2 r2 hq;obtain⟨hb7,rfl,hR7⟩:=dC hp hq;have h7:=(aa H3).next (aa HS) hb7 hR7;have nA:=h7.stm.cell (k:=21) (show (S).cells[21]? =some (.string (S).al) from rfl);have f22:=h7.stm.fz 21;have H8:=ab (h7.al (aa HS) yP);have eq:Hid (RR=.ok ({P with al:=t2},r2)):=ab (by rw[aa dJ,hq,aT])
    clear hp hb7 hq ay hR7 h7;go_wp2_with fail
    (first | go_end0 | refine ck (results_none rfl _ _ _) rfl ?_)
    exact(aa H8).done (aa eq)
open Go.RowKit
theorem lC.mono {B C:Nat} {w:World} {N:NL} (h:lC C w N) (hc:B≤C):lC B w N:=fun X hX=>h X fun i h1 h2=>hX i (by omega) h2
theorem StIn.putN {B sb:Nat} {w:World} {S P S' P':SV} {k:Nat} {v:Value} (h:StIn B sb w S P) (hsb:sb < B) (hc:S.cells.setIfInBounds k v=S'.cells) (cE:S'.can=P') (ht:S'.lab.size≤2000∧S'.nm.size≤2000∧S'.en.size≤2000∧S'.al.size≤2000∧S'.ye.size≤2000∧S'.no.size≤2000)
  (h1:S'.tg=S.tg) (h2:S'.va=S.va) (h3:S'.pa=S.pa) (h4:lC B w S'.ps) (h5:lC B w S'.ls):StIn B sb (w.setCell ⟨sb,k,none⟩ v) S' P':=by
 have hs:w.heap.size≤(w.setCell ⟨sb,k,none⟩ v).heap.size:=by rw[nV];exact ax _
 have hb:∀i,B≤i→i < w.heap.size→(w.setCell ⟨sb,k,none⟩ v).heap[i]? =w.heap[i]? :=fun i h1 _=>dm w ⟨sb,k,none⟩ i v (by show i≠sb;omega)
 refine⟨?_,cE,ht,by rw[h1];exact h.tg.step hs hb,by rw[h2];exact h.va.step hs hb,by rw[h3];exact h.pa.step hs hb,h4.step hs hb,h5.step hs hb⟩
 rw[←hc];exact fK w sb k _ _ v h.box
section
variable {C:SyC} {o B sb:Nat} {w W W':World} {l l':List Tk} {S P:SV}
theorem StR.kd (h:StR C o B sb w W l S P) (hS:SyS C B sb) (k:Int):StR C o B sb w (W.setCell ⟨sb,1,none⟩ (.int .i64 k)) l {S with k:=k} {P with k:=k}:=
 ⟨h.but.set _ _,h.rdr.stm hS,h.stm.put hS.s rfl (by rw[←h.stm.can];rfl) h.stm.txt rfl rfl rfl rfl rfl⟩
theorem StR.nm (h:StR C o B sb w W l S P) (hS:SyS C B sb) {t:ByteArray} (ht:t.size≤2000):StR C o B sb w (W.setCell ⟨sb,17,none⟩ (.string t)) l {S with nm:=t} {P with nm:=t}:=
 ⟨h.but.set _ _,h.rdr.stm hS,h.stm.put hS.s rfl (by rw[←h.stm.can];rfl) ⟨h.stm.txt.1,ht,h.stm.txt.2.2⟩ rfl rfl rfl rfl rfl⟩
theorem StR.en (h:StR C o B sb w W l S P) (hS:SyS C B sb) {t:ByteArray} (ht:t.size≤2000):StR C o B sb w (W.setCell ⟨sb,18,none⟩ (.string t)) l {S with en:=t} {P with en:=t}:=
 ⟨h.but.set _ _,h.rdr.stm hS,h.stm.put hS.s rfl (by rw[←h.stm.can];rfl) ⟨h.stm.txt.1,h.stm.txt.2.1,ht,h.stm.txt.2.2.2⟩ rfl rfl rfl rfl rfl⟩
theorem StR.ps (h:StR C o B sb w W l S P) (hS:SyS C B sb) {N:NL} {p:List ByteArray} (hp:N.l=p) (hN:lC B W N):StR C o B sb w (W.setCell ⟨sb,19,none⟩ N.v) l {S with ps:=N} {P with ps:=dj p}:=
 ⟨h.but.set _ _,h.rdr.stm hS,h.stm.putN hS.s rfl (by rw[←h.stm.can,←hp];rfl) h.stm.txt rfl rfl rfl hN h.stm.ls⟩
theorem StR.ls (h:StR C o B sb w W l S P) (hS:SyS C B sb) {N:NL} {p:List ByteArray} (hp:N.l=p) (hN:lC B W N):StR C o B sb w (W.setCell ⟨sb,20,none⟩ N.v) l {S with ls:=N} {P with ls:=dj p}:=
 ⟨h.but.set _ _,h.rdr.stm hS,h.stm.putN hS.s rfl (by rw[←h.stm.can,←hp];rfl) h.stm.txt rfl rfl rfl h.stm.ps hN⟩
end
def dfA (E:Nat) (P:SV) (l:List Tk):Sy SV:=aR (dO E l) fun nm r=>aR (ee E (ah 40) r) fun _ r1=>aR (uP E r1) fun ps r2=>aR (sZ E r2) fun ls r3=>aR (dO E r3) fun en r4=>.ok ({P with k:=7,nm:=nm,ps:=dj ps,ls:=dj ls,en:=en},r4)
theorem dfA_eq (E:Nat) (P:SV) (l:List Tk):(aR (dfS E l) fun x r=>.ok ({P with k:=7,nm:=x.1,ps:=dj x.2.1,ls:=dj x.2.2.1,en:=x.2.2.2},r))=dfA E P l:=by
 unfold dfS dfA
 cases dO E l with
 | error e=>rfl
 | ok a=>
  obtain⟨a1,a2⟩:=a;simp only[aT]
  cases ee E (ah 40) a2 with
  | error e=>rfl
  | ok b=>
   obtain⟨b1,b2⟩:=b;simp only[aT]
   cases uP E b2 with
   | error e=>rfl
   | ok c=>
    obtain⟨c1,c2⟩:=c;simp only[aT]
    cases sZ E c2 with
    | error e=>rfl
    | ok d=>
     obtain⟨d1,d2⟩:=d;simp only[aT]
     cases dO E d2 with
     | error e=>rfl
     | ok f=>obtain⟨f1,f2⟩:=f;rfl
theorem Io {C:SyC} {l:List Tk} {o B sb:Nat} {S P:SV} (w:World) (hS:SyS C B sb) (hR:Syr C w l o) (hI:StIn B sb w S P) (si:B≤w.heap.size) (hl:l≠[]) (mK:P.ps=dj []) (sc:P.ls=dj []):Calls prog 100 #[.pointer (some ⟨C.z,0,none⟩),.pointer (some ⟨sb,0,none⟩)] w fun e w'=>iK C o B sb w (dfA C.E P l.tail) e w':=by
 obtain⟨pl,pk,ptg,pva,ppa,pnm,pen,pps,pls,pal,pye,pno⟩:=P;have mK:pps=dj []:=mK;have sc:pls=dj []:=sc;subst mK sc;have H0:Hid (StR C o B sb w w l S _):=ab (⟨But2.refl _ _ _,hR,hI⟩);have HS:=ab hS;have vo:B≤w.heap.size:=si;have HP0:=ab (un w hR hl);have fY:=ab (fun w l h=>vP (C:=C) (l:=l) (o:=o) w h)
 have vI:=ab (fun w l h=>IT (C:=C) (l:=l) (od:=o) w h)
 have fq:=ab (fun w l h=>sJ (C:=C) (l:=l) (o:=o) (ah 40) w h)
 have qd:=ab (fun w l h=>sJ (C:=C) (l:=l) (o:=o) (ah 41) w h)
 have HTY:=ab (fun w l h q=>pq (C:=C) (l:=l) (o:=o) (ah 41) w h q)
 have pZ:=ab (fun w l h q=>pr (C:=C) (l:=l) (o:=o) (ah 41) w h q)
 have HAH:=ab (fun w l h=>zj (C:=C) (l:=l) (o:=o) 1 w h (by decide))
 obtain⟨RR,bM⟩:∃RR,RR=dfA C.E ⟨pl,pk,ptg,pva,ppa,pnm,pen,dj [],dj [],pal,pye,pno⟩ l.tail:=⟨_,rfl⟩;rw[←bM];unfold dfA at bM;have HQ:=ab bM;clear hR hI hS bM si hl;unfold ah at fq qd HTY pZ HQ;generalize l.tail=l1 at *;go_enter func100,ntmps100;go_wp2_with fail;refine(aa HP0).mono ?_;rintro e w1 ⟨rfl,hb1,hR1⟩;have mJ:=(aa H0).next (aa HS) hb1 hR1;have c1:=mJ.stm.cell (k:=1) rfl;have f1:=mJ.stm.fz 1;have H2:=ab (mJ.kd (aa HS) 7);have qI:=ab (aa fY _ l1 (aa H2).rdr);have eE:=ab (fun t r h=>oD (t:=t) (r:=r) (aa H2).rdr h)
 clear hb1 hR1 mJ HP0;go_wp2_with fail;refine(aa qI).mono ?_;intro e w3 hp
 cases hq:dO C.E l1 with
 | error x=>
  obtain⟨er,i⟩:=x;obtain⟨an,rfl⟩:=dB hp hq;have bq:=ab ((aa H2).but.trans (But2.of an));have hQ:=aa HQ;rw[hq] at hQ;simp only[dn] at hQ;have eb:=ab hQ;clear hp an hq hQ HQ;unfold aC;go_wp2_with fail;exact⟨rfl,fA (aa eb) (aa bq) rfl⟩
 | ok x=>
  obtain⟨t3,r3⟩:=x;obtain⟨an,rfl,cv⟩:=dC hp hq;have ja:=aa eE _ _ hq;have hQ:=aa HQ;rw[hq] at hQ;simp only[aT] at hQ;have HQ:=ab hQ;have hx:=(aa H2).next (aa HS) an cv;have cx:=hx.stm.cell (k:=17) rfl;have fx:=hx.stm.fz 17;have H3:=ab (hx.nm (aa HS) ja);clear hp an hq hQ cv hx eE;have sA:=ab (aa fq _ r3 (aa H3).rdr);clear c1 f1;go_wp2_with fail;clear cx fx;refine(aa sA).mono ?_;intro e w4 hp
  cases hq:ee C.E ⟨#[40]⟩ r3 with
  | error x=>
   obtain⟨er,i⟩:=x;obtain⟨an,rfl⟩:=dB hp hq;have bq:=ab ((aa H3).but.trans (But2.of an));have hQ:=aa HQ;rw[hq] at hQ;simp only[dn] at hQ;have eb:=ab hQ;clear hp an hq hQ HQ;unfold aC;go_wp2_with fail;exact⟨rfl,fA (aa eb) (aa bq) rfl⟩
  | ok x=>
   obtain⟨xu,r4⟩:=x;obtain⟨an,rfl,cv⟩:=dC hp hq;have hQ:=aa HQ;rw[hq] at hQ;simp only[aT] at hQ;have HQ:=ab hQ;have hx:=(aa H3).next (aa HS) an cv;have H4:=ab hx;clear hp an hq hQ cv hx sA;unfold uP at HQ;unfold ah at HQ;go_wp2_with fail
   cases h5:aM (ak C.E 0 r4) ⟨#[41]⟩
   ·have hQ:=aa HQ
    rw[ac (by rw[h5];decide)] at hQ
    have mh:=ab (aa pZ _ r4 (aa H4).rdr h5);have HQ:=ab hQ;clear hQ h5;refine(aa mh).mono ?_;rintro e w5 ⟨rfl,hb5⟩;have H5:=ab ((aa H4).below hb5);have HNS5:=ab (aa vI _ r4 (aa H5).rdr);clear hb5 mh;go_wp2_with fail;refine(aa HNS5).mono ?_;intro e w6 hp
    cases hq:oH C.E r4 with
    | error x=>
     obtain⟨er,i⟩:=x;obtain⟨an,rfl⟩:=dB hp hq;have bq:=ab ((aa H5).but.trans (But2.of an));have hQ:=aa HQ;rw[hq] at hQ;simp only[dn] at hQ;have eb:=ab hQ;clear hp an hq hQ HQ;unfold aC;go_wp2_with fail;exact⟨rfl,fA (aa eb) (aa bq) rfl⟩
    | ok x=>
     obtain⟨p6,r6⟩:=x;obtain⟨an,⟨NN,tN,ol,om⟩,cv⟩:=dC hp hq;have hQ:=aa HQ;rw[hq] at hQ;simp only[aT] at hQ;have HQ:=ab hQ;have hx:=(aa H5).next (aa HS) an cv;have ay:=(aa H5).but.size;have cx:=hx.stm.cell (k:=19) rfl;have fx:=hx.stm.fz 19;have H6:=ab (hx.ps (aa HS) ol (om.mono (by omega)))
     clear hp an hq hQ cv hx ay ol om;subst tN;unfold NL.v;have t8:=ab (aa qd _ r6 (aa H6).rdr);go_wp2_with fail;clear cx fx;refine(aa t8).mono ?_;intro e w6b hp
     cases hq:ee C.E ⟨#[41]⟩ r6 with
     | error x=>
      obtain⟨er,i⟩:=x;obtain⟨an,rfl⟩:=dB hp hq;have bq:=ab ((aa H6).but.trans (But2.of an));have hQ:=aa HQ;rw[hq] at hQ;simp only[dn] at hQ;have eb:=ab hQ;clear hp an hq hQ HQ;unfold aC;go_wp2_with fail;exact⟨rfl,fA (aa eb) (aa bq) rfl⟩
     | ok x=>
      obtain⟨xu6,tF⟩:=x;obtain⟨an,rfl,cv⟩:=dC hp hq;have hQ:=aa HQ;rw[hq] at hQ;simp only[aT] at hQ;have HQ:=ab hQ;have hx:=(aa H6).next (aa HS) an cv;have H6b:=ab hx;clear hp an hq hQ cv hx t8;unfold sZ at HQ;unfold ah at HQ;have HA7:=ab (aa HAH _ tF (aa H6b).rdr);have fu:=ab (fun w=>um (ak C.E 1 tF) ⟨#[44]⟩ w)
      generalize ht7:ak C.E 1 tF=t7 at *;have HT7:=ab ht7;clear ht7;unfold jC at HA7 fu;go_wp2_with fail;refine(aa HA7).mono ?_;rintro e w7 ⟨rfl,hb7⟩;have yV:=(aW w7.heap.size w7).alloc (ax _) (.cells #[.int .i64 (t7.k:Int),.string t7.t,.int .i64 (t7.a:Int)] 102);have H7:=ab (((aa H6b).below hb7).below yV);clear hb7 yV HA7
      by_cases iE:t7.k=1
      ·have q7:((t7.k:Int)==1)=true:=bt
       have hQ:=aa HQ;rw[af (.inl iE)] at hQ;have HQ:=ab hQ;clear hQ iE fu;have wF:=ab (aa vI _ tF (aa H7).rdr);have hB8:B≤w.heap.size:=vo;go_wp2_with fail;refine(aa wF).mono ?_;intro e w8b hp
       cases hq:oH C.E tF with
       | error x=>
        obtain⟨er,i⟩:=x;obtain⟨an,rfl⟩:=dB hp hq;have bq:=ab ((aa H7).but.trans (But2.of an));have hQ:=aa HQ;rw[hq] at hQ;simp only[dn] at hQ;have eb:=ab hQ;clear hp an hq hQ HQ;unfold aC;go_wp2_with fail;exact⟨rfl,fA (aa eb) (aa bq) rfl⟩
       | ok x=>
        obtain⟨p8,r8⟩:=x;obtain⟨an,⟨NN,tN,ol,om⟩,cv⟩:=dC hp hq;have hQ:=aa HQ;rw[hq] at hQ;simp only[aT] at hQ;have HQ:=ab hQ;have hx:=(aa H7).next (aa HS) an cv;have ay:=(aa H7).but.size;have cx:=hx.stm.cell (k:=20) rfl;have fx:=hx.stm.fz 20;have H9:=ab (hx.ls (aa HS) ol (om.mono (by omega)))
        clear hp an hq hQ cv hx ay ol om;subst tN;unfold NL.v;have qH:=ab (aa fY _ r8 (aa H9).rdr);have eE:=ab (fun t r h=>oD (t:=t) (r:=r) (aa H9).rdr h)
        go_wp2_with fail;clear cx fx;refine(aa qH).mono ?_;intro e w9 hp
        cases hq:dO C.E r8 with
        | error x=>
         obtain⟨er,i⟩:=x;obtain⟨an,rfl⟩:=dB hp hq;have bq:=ab ((aa H9).but.trans (But2.of an));have hQ:=aa HQ;rw[hq] at hQ;simp only[dn] at hQ;have eb:=ab hQ;clear hp an hq hQ HQ;unfold aC;go_wp2_with fail;exact⟨rfl,fA (aa eb) (aa bq) rfl⟩
        | ok x=>
         obtain⟨t9,r9⟩:=x;obtain⟨an,rfl,cv⟩:=dC hp hq;have ja:=aa eE _ _ hq;have hQ:=aa HQ;rw[hq] at hQ;simp only[aT] at hQ;have HQ:=ab hQ;have hx:=(aa H9).next (aa HS) an cv;have cx:=hx.stm.cell (k:=18) rfl;have fx:=hx.stm.fz 18;have iI:=ab (hx.en (aa HS) ja);clear hp an hq hQ cv hx eE;go_wp2_with fail;go_end0;exact(aa iI).done (aa HQ)
      ·have q7:((t7.k:Int)==1)=false:=bn
       cases h44:aM t7 ⟨#[44]⟩
       ·rw[h44] at fu
        have hQ:=aa HQ;rw[ac (by intro h;rcases h with h | h;exact iE h;rw[h44] at h;cases h)] at hQ
        simp only[aT] at hQ;have HQ:=ab hQ;clear hQ iE h44;go_wp2_with fail;refine(aa fu _).mono ?_;rintro e w8 ⟨rfl,jt⟩;have H8:=ab ((aa H7).below jt);clear jt fu;have qH:=ab (aa fY _ tF (aa H8).rdr);have eE:=ab (fun t r h=>oD (t:=t) (r:=r) (aa H8).rdr h)
        go_wp2_with fail;refine(aa qH).mono ?_;intro e w9 hp
        cases hq:dO C.E tF with
        | error x=>
         obtain⟨er,i⟩:=x;obtain⟨an,rfl⟩:=dB hp hq;have bq:=ab ((aa H8).but.trans (But2.of an));have hQ:=aa HQ;rw[hq] at hQ;simp only[dn] at hQ;have eb:=ab hQ;clear hp an hq hQ HQ;unfold aC;go_wp2_with fail;exact⟨rfl,fA (aa eb) (aa bq) rfl⟩
        | ok x=>
         obtain⟨t9,r9⟩:=x;obtain⟨an,rfl,cv⟩:=dC hp hq;have ja:=aa eE _ _ hq;have hQ:=aa HQ;rw[hq] at hQ;simp only[aT] at hQ;have HQ:=ab hQ;have hx:=(aa H8).next (aa HS) an cv;have cx:=hx.stm.cell (k:=18) rfl;have fx:=hx.stm.fz 18;have iI:=ab (hx.en (aa HS) ja);clear hp an hq hQ cv hx eE;go_wp2_with fail;go_end0;exact(aa iI).done (aa HQ)
       ·rw[h44] at fu
        have hQ:=aa HQ;rw[af (.inr h44)] at hQ;have HQ:=ab hQ;clear hQ iE h44;go_wp2_with fail;refine(aa fu _).mono ?_;rintro e w8 ⟨rfl,jt⟩;have H8:=ab ((aa H7).below jt);clear jt fu;have wF:=ab (aa vI _ tF (aa H8).rdr);have hB8:B≤w.heap.size:=vo;go_wp2_with fail;refine(aa wF).mono ?_;intro e w8b hp
        cases hq:oH C.E tF with
        | error x=>
         obtain⟨er,i⟩:=x;obtain⟨an,rfl⟩:=dB hp hq;have bq:=ab ((aa H8).but.trans (But2.of an));have hQ:=aa HQ;rw[hq] at hQ;simp only[dn] at hQ;have eb:=ab hQ;clear hp an hq hQ HQ;unfold aC;go_wp2_with fail;exact⟨rfl,fA (aa eb) (aa bq) rfl⟩
        | ok x=>
         obtain⟨p8,r8⟩:=x;obtain⟨an,⟨NN,tN,ol,om⟩,cv⟩:=dC hp hq;have hQ:=aa HQ;rw[hq] at hQ;simp only[aT] at hQ;have HQ:=ab hQ;have hx:=(aa H8).next (aa HS) an cv;have ay:=(aa H8).but.size;have cx:=hx.stm.cell (k:=20) rfl;have fx:=hx.stm.fz 20;have H9:=ab (hx.ls (aa HS) ol (om.mono (by omega)))
         clear hp an hq hQ cv hx ay ol om;subst tN;unfold NL.v;have qH:=ab (aa fY _ r8 (aa H9).rdr);have eE:=ab (fun t r h=>oD (t:=t) (r:=r) (aa H9).rdr h)
         go_wp2_with fail;clear cx fx;refine(aa qH).mono ?_;intro e w9 hp
         cases hq:dO C.E r8 with
         | error x=>
          obtain⟨er,i⟩:=x;obtain⟨an,rfl⟩:=dB hp hq;have bq:=ab ((aa H9).but.trans (But2.of an));have hQ:=aa HQ;rw[hq] at hQ;simp only[dn] at hQ;have eb:=ab hQ;clear hp an hq hQ HQ;unfold aC;go_wp2_with fail;exact⟨rfl,fA (aa eb) (aa bq) rfl⟩
         | ok x=>
          obtain⟨t9,r9⟩:=x;obtain⟨an,rfl,cv⟩:=dC hp hq;have ja:=aa eE _ _ hq;have hQ:=aa HQ;rw[hq] at hQ;simp only[aT] at hQ;have HQ:=ab hQ;have hx:=(aa H9).next (aa HS) an cv;have cx:=hx.stm.cell (k:=18) rfl;have fx:=hx.stm.fz 18;have iI:=ab (hx.en (aa HS) ja);clear hp an hq hQ cv hx eE;go_wp2_with fail;go_end0;exact(aa iI).done (aa HQ)
   ·have hQ:=aa HQ
    rw[af h5] at hQ;simp only[aT] at hQ;have mh:=ab (aa HTY _ r4 (aa H4).rdr h5);unfold sZ at hQ;unfold ah at hQ;have HQ:=ab hQ;clear hQ h5;refine(aa mh).mono ?_;rintro e w5 ⟨rfl,hb5,hR5⟩;have H5:=ab ((aa H4).next (aa HS) hb5 hR5);clear hb5 hR5 mh;generalize r4.tail=r5 at *;have HA7:=ab (aa HAH _ r5 (aa H5).rdr);have fu:=ab (fun w=>um (ak C.E 1 r5) ⟨#[44]⟩ w)
    generalize ht7:ak C.E 1 r5=t7 at *;have HT7:=ab ht7;clear ht7;unfold jC at HA7 fu;go_wp2_with fail;refine(aa HA7).mono ?_;rintro e w7 ⟨rfl,hb7⟩;have yV:=(aW w7.heap.size w7).alloc (ax _) (.cells #[.int .i64 (t7.k:Int),.string t7.t,.int .i64 (t7.a:Int)] 102);have H7:=ab (((aa H5).below hb7).below yV);clear hb7 yV HA7
    by_cases iE:t7.k=1
    ·have q7:((t7.k:Int)==1)=true:=bt
     have hQ:=aa HQ;rw[af (.inl iE)] at hQ;have HQ:=ab hQ;clear hQ iE fu;have wF:=ab (aa vI _ r5 (aa H7).rdr);have hB8:B≤w.heap.size:=vo;go_wp2_with fail;refine(aa wF).mono ?_;intro e w8b hp
     cases hq:oH C.E r5 with
     | error x=>
      obtain⟨er,i⟩:=x;obtain⟨an,rfl⟩:=dB hp hq;have bq:=ab ((aa H7).but.trans (But2.of an));have hQ:=aa HQ;rw[hq] at hQ;simp only[dn] at hQ;have eb:=ab hQ;clear hp an hq hQ HQ;unfold aC;go_wp2_with fail;exact⟨rfl,fA (aa eb) (aa bq) rfl⟩
     | ok x=>
      obtain⟨p8,r8⟩:=x;obtain⟨an,⟨NN,tN,ol,om⟩,cv⟩:=dC hp hq;have hQ:=aa HQ;rw[hq] at hQ;simp only[aT] at hQ;have HQ:=ab hQ;have hx:=(aa H7).next (aa HS) an cv;have ay:=(aa H7).but.size;have cx:=hx.stm.cell (k:=20) rfl;have fx:=hx.stm.fz 20;have H9:=ab (hx.ls (aa HS) ol (om.mono (by omega)))
      clear hp an hq hQ cv hx ay ol om;subst tN;unfold NL.v;have qH:=ab (aa fY _ r8 (aa H9).rdr);have eE:=ab (fun t r h=>oD (t:=t) (r:=r) (aa H9).rdr h)
      go_wp2_with fail;clear cx fx;refine(aa qH).mono ?_;intro e w9 hp
      cases hq:dO C.E r8 with
      | error x=>
       obtain⟨er,i⟩:=x;obtain⟨an,rfl⟩:=dB hp hq;have bq:=ab ((aa H9).but.trans (But2.of an));have hQ:=aa HQ;rw[hq] at hQ;simp only[dn] at hQ;have eb:=ab hQ;clear hp an hq hQ HQ;unfold aC;go_wp2_with fail;exact⟨rfl,fA (aa eb) (aa bq) rfl⟩
      | ok x=>
       obtain⟨t9,r9⟩:=x;obtain⟨an,rfl,cv⟩:=dC hp hq;have ja:=aa eE _ _ hq;have hQ:=aa HQ;rw[hq] at hQ;simp only[aT] at hQ;have HQ:=ab hQ;have hx:=(aa H9).next (aa HS) an cv;have cx:=hx.stm.cell (k:=18) rfl;have fx:=hx.stm.fz 18;have iI:=ab (hx.en (aa HS) ja);clear hp an hq hQ cv hx eE;go_wp2_with fail;go_end0;exact(aa iI).done (aa HQ)
    ·have q7:((t7.k:Int)==1)=false:=bn
     cases h44:aM t7 ⟨#[44]⟩
     ·rw[h44] at fu
      have hQ:=aa HQ;rw[ac (by intro h;rcases h with h | h;exact iE h;rw[h44] at h;cases h)] at hQ
      simp only[aT] at hQ;have HQ:=ab hQ;clear hQ iE h44;go_wp2_with fail;refine(aa fu _).mono ?_;rintro e w8 ⟨rfl,jt⟩;have H8:=ab ((aa H7).below jt);clear jt fu;have qH:=ab (aa fY _ r5 (aa H8).rdr);have eE:=ab (fun t r h=>oD (t:=t) (r:=r) (aa H8).rdr h)
      go_wp2_with fail;refine(aa qH).mono ?_;intro e w9 hp
      cases hq:dO C.E r5 with
      | error x=>
       obtain⟨er,i⟩:=x;obtain⟨an,rfl⟩:=dB hp hq;have bq:=ab ((aa H8).but.trans (But2.of an));have hQ:=aa HQ;rw[hq] at hQ;simp only[dn] at hQ;have eb:=ab hQ;clear hp an hq hQ HQ;unfold aC;go_wp2_with fail;exact⟨rfl,fA (aa eb) (aa bq) rfl⟩
      | ok x=>
       obtain⟨t9,r9⟩:=x;obtain⟨an,rfl,cv⟩:=dC hp hq;have ja:=aa eE _ _ hq;have hQ:=aa HQ;rw[hq] at hQ;simp only[aT] at hQ;have HQ:=ab hQ;have hx:=(aa H8).next (aa HS) an cv;have cx:=hx.stm.cell (k:=18) rfl;have fx:=hx.stm.fz 18;have iI:=ab (hx.en (aa HS) ja);clear hp an hq hQ cv hx eE;go_wp2_with fail;go_end0;exact(aa iI).done (aa HQ)
     ·rw[h44] at fu
      have hQ:=aa HQ;rw[af (.inr h44)] at hQ;have HQ:=ab hQ;clear hQ iE h44;go_wp2_with fail;refine(aa fu _).mono ?_;rintro e w8 ⟨rfl,jt⟩;have H8:=ab ((aa H7).below jt);clear jt fu;have wF:=ab (aa vI _ r5 (aa H8).rdr);have hB8:B≤w.heap.size:=vo;go_wp2_with fail;refine(aa wF).mono ?_;intro e w8b hp
      cases hq:oH C.E r5 with
      | error x=>
       obtain⟨er,i⟩:=x;obtain⟨an,rfl⟩:=dB hp hq;have bq:=ab ((aa H8).but.trans (But2.of an));have hQ:=aa HQ;rw[hq] at hQ;simp only[dn] at hQ;have eb:=ab hQ;clear hp an hq hQ HQ;unfold aC;go_wp2_with fail;exact⟨rfl,fA (aa eb) (aa bq) rfl⟩
      | ok x=>
       obtain⟨p8,r8⟩:=x;obtain⟨an,⟨NN,tN,ol,om⟩,cv⟩:=dC hp hq;have hQ:=aa HQ;rw[hq] at hQ;simp only[aT] at hQ;have HQ:=ab hQ;have hx:=(aa H8).next (aa HS) an cv;have ay:=(aa H8).but.size;have cx:=hx.stm.cell (k:=20) rfl;have fx:=hx.stm.fz 20;have H9:=ab (hx.ls (aa HS) ol (om.mono (by omega)))
       clear hp an hq hQ cv hx ay ol om;subst tN;unfold NL.v;have qH:=ab (aa fY _ r8 (aa H9).rdr);have eE:=ab (fun t r h=>oD (t:=t) (r:=r) (aa H9).rdr h)
       go_wp2_with fail;clear cx fx;refine(aa qH).mono ?_;intro e w9 hp
       cases hq:dO C.E r8 with
       | error x=>
        obtain⟨er,i⟩:=x;obtain⟨an,rfl⟩:=dB hp hq;have bq:=ab ((aa H9).but.trans (But2.of an));have hQ:=aa HQ;rw[hq] at hQ;simp only[dn] at hQ;have eb:=ab hQ;clear hp an hq hQ HQ;unfold aC;go_wp2_with fail;exact⟨rfl,fA (aa eb) (aa bq) rfl⟩
       | ok x=>
        obtain⟨t9,r9⟩:=x;obtain⟨an,rfl,cv⟩:=dC hp hq;have ja:=aa eE _ _ hq;have hQ:=aa HQ;rw[hq] at hQ;simp only[aT] at hQ;have HQ:=ab hQ;have hx:=(aa H9).next (aa HS) an cv;have cx:=hx.stm.cell (k:=18) rfl;have fx:=hx.stm.fz 18;have iI:=ab (hx.en (aa HS) ja);clear hp an hq hQ cv hx eE;go_wp2_with fail;go_end0;exact(aa iI).done (aa HQ)
open Go.RowKit
theorem zp (m g:Bool) (w:World):Calls prog 137 #[.bool m,.bool g] w fun e w'=>e=.returned (.int .i64 (uO m g))∧w'=w:=by
 cases m <;> cases g <;> (go_enter func137,ntmps137;go_wp2_with fail;go_ret;exact⟨rfl,rfl⟩)
def set5 (w:World) (sb k:Nat) (U:PT):World:=((((w.setCell ⟨sb,k,none⟩ (.int .i64 U.k)).setCell ⟨sb,k+1,none⟩ (.string U.t)).setCell ⟨sb,k+2,none⟩ (.int .i64 U.n)).setCell ⟨sb,k+3,none⟩ (.string U.nm)).setCell ⟨sb,k+4,none⟩ (.slice U.xa U.len U.cap)
theorem mS (w:World) (sb k:Nat) (U:PT):(set5 w sb k U).heap.size=w.heap.size:=by unfold set5;simp only[nV]
theorem lT (w:World) (sb k i:Nat) (U:PT) (h:i≠sb):(set5 w sb k U).heap[i]? =w.heap[i]? :=by
 unfold set5;rw[dm _ ⟨sb,k+4,none⟩ i _ h,dm _ ⟨sb,k+3,none⟩ i _ h,dm _ ⟨sb,k+2,none⟩ i _ h,dm _ ⟨sb,k+1,none⟩ i _ h,dm _ ⟨sb,k,none⟩ i _ h]
theorem DG (w:World) (sb k:Nat) (U:PT) {A:Array Value} {t:TypeId} (h:w.heap[sb]? =some (.cells A t (0,0))):(set5 w sb k U).heap[sb]? =some (.cells (((((A.setIfInBounds k (.int .i64 U.k)).setIfInBounds (k+1) (.string U.t)).setIfInBounds (k+2) (.int .i64 U.n)).setIfInBounds (k+3) (.string U.nm)).setIfInBounds (k+4) (.slice U.xa U.len U.cap)) t (0,0)):=by
 unfold set5;exact fK _ sb (k+4) _ _ _ (fK _ sb (k+3) _ _ _ (fK _ sb (k+2) _ _ _ (fK _ sb (k+1) _ _ _ (fK _ sb k _ _ _ h))))
section
variable {C:SyC} {o B sb:Nat} {w W W':World} {l l':List Tk} {S P:SV}
theorem But2.set5 {z s:Nat} {a b:World} (h:But2 z s a b) (k:Nat) (U:PT):But2 z s a (set5 b s k U):=((((h.set _ _).set _ _).set _ _).set _ _).set _ _
theorem Syr.stm5 {k:Nat} {U:PT} (h:Syr C W l o) (hS:SyS C B sb):Syr C (set5 W sb k U) l o:=((((h.stm hS).stm hS).stm hS).stm hS).stm hS
theorem StIn.put5 {S' P':SV} {k:Nat} {U:PT} (h:StIn B sb w S P) (hsb:sb < B) (hc:((((S.cells.setIfInBounds k (.int .i64 U.k)).setIfInBounds (k+1) (.string U.t)).setIfInBounds (k+2) (.int .i64 U.n)).setIfInBounds (k+3) (.string U.nm)).setIfInBounds (k+4) (.slice U.xa U.len U.cap)=S'.cells) (cE:S'.can=P')
  (ht:S'.lab.size≤2000∧S'.nm.size≤2000∧S'.en.size≤2000∧S'.al.size≤2000∧S'.ye.size≤2000∧S'.no.size≤2000) (h1:bd B w S'.tg) (h2:bd B w S'.va) (h3:bd B w S'.pa) (h4:S'.ps=S.ps) (h5:S'.ls=S.ls):StIn B sb (set5 w sb k U) S' P':=by
 have hs:w.heap.size≤(Go.Proofs.YtlmnjbipfacniaaGreatDoor.set5 w sb k U).heap.size:=by rw[mS];exact ax _
 have hb:∀i,B≤i→i < w.heap.size→(Go.Proofs.YtlmnjbipfacniaaGreatDoor.set5 w sb k U).heap[i]? =w.heap[i]? :=fun i q _=>lT w sb k i U (by omega)
 refine⟨?_,cE,ht,h1.step hs hb,h2.step hs hb,h3.step hs hb,by rw[h4];exact h.ps.step hs hb,by rw[h5];exact h.ls.step hs hb⟩
 rw[←hc];exact DG w sb k U h.box
theorem StR.va (h:StR C o B sb w W l S P) (hS:SyS C B sb) {U p:PT} (hc:U.can=p) (hl:bd B W U):StR C o B sb w (set5 W sb 7 U) l {S with va:=U} {P with va:=p}:=
 ⟨h.but.set5 _ _,h.rdr.stm5 hS,h.stm.put5 hS.s rfl (by rw[←h.stm.can,←hc];rfl) h.stm.txt h.stm.tg hl h.stm.pa rfl rfl⟩
theorem StR.tg (h:StR C o B sb w W l S P) (hS:SyS C B sb) {U p:PT} (hc:U.can=p) (hl:bd B W U):StR C o B sb w (set5 W sb 2 U) l {S with tg:=U} {P with tg:=p}:=
 ⟨h.but.set5 _ _,h.rdr.stm5 hS,h.stm.put5 hS.s rfl (by rw[←h.stm.can,←hc];rfl) h.stm.txt hl h.stm.va h.stm.pa rfl rfl⟩
theorem StR.pa (h:StR C o B sb w W l S P) (hS:SyS C B sb) {U p:PT} (hc:U.can=p) (hl:bd B W U):StR C o B sb w (set5 W sb 12 U) l {S with pa:=U} {P with pa:=p}:=
 ⟨h.but.set5 _ _,h.rdr.stm5 hS,h.stm.put5 hS.s rfl (by rw[←h.stm.can,←hc];rfl) h.stm.txt h.stm.tg h.stm.va hl rfl rfl⟩
end
end Go.Proofs.YtlmnjbipfacniaaGreatDoor
