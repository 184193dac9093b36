/- The reader of lines: a function's definition. The reader of -/
import Derived.Test.YtlmnjbipfacniaaGreatDoorSyMMs
set_option maxRecDepth 100000
set_option maxHeartbeats 16000000
namespace Go.Proofs.YtlmnjbipfacniaaGreatDoor
open Go.Proofs.Tryz
open Go.RowKit
theorem lD.mono {B C:Nat} {w:World} {N:NL} (h:lD C w N) (hc:B≤C):lD B w N:=fun X hX=>h X fun i h1 h2=>hX i (by omega) h2
theorem StIn.putN {B sb:Nat} {w:World} {S P S' P':SV} {k:Nat} {v:Value} (h:StIn B sb w S P) (hsb:sb < B) (hc:S.cells.setIfInBounds k v=S'.cells) (cA:S'.can=P') (ht:S'.lab.size≤2000∧S'.nm.size≤2000∧S'.en.size≤2000∧S'.al.size≤2000∧S'.ye.size≤2000∧S'.no.size≤2000)
  (h1:S'.tg=S.tg) (h2:S'.va=S.va) (h3:S'.pa=S.pa) (h4:lD B w S'.ps) (h5:lD B w S'.ls):StIn B sb (w.setCell ⟨sb,k,none⟩ v) S' P':=by
 have hs:w.heap.size≤(w.setCell ⟨sb,k,none⟩ v).heap.size:=by rw[og];exact aw _
 have hb:∀i,B≤i→i < w.heap.size→(w.setCell ⟨sb,k,none⟩ v).heap[i]? =w.heap[i]? :=fun i h1 _=>dh w ⟨sb,k,none⟩ i v (by show i≠sb;omega)
 refine⟨?_,cA,ht,by rw[h1];exact h.tg.step hs hb,by rw[h2];exact h.va.step hs hb,by rw[h3];exact h.pa.step hs hb,h4.step hs hb,h5.step hs hb⟩
 rw[←hc];exact fB w sb k _ _ v h.box
section
variable {C:SyC} {o B sb:Nat} {w W W':World} {l l':List Tk} {S P:SV}
theorem StR.kd (h:StR C o B sb w W l S P) (hS:SyS C B sb) (k:Int):StR C o B sb w (W.setCell ⟨sb,1,none⟩ (.int .i64 k)) l {S with k:=k} {P with k:=k}:=
 ⟨h.but.set _ _,h.rdr.stm hS,h.stm.put hS.s rfl (by rw[←h.stm.can];rfl) h.stm.txt rfl rfl rfl rfl rfl⟩
theorem StR.nm (h:StR C o B sb w W l S P) (hS:SyS C B sb) {t:ByteArray} (ht:t.size≤2000):StR C o B sb w (W.setCell ⟨sb,17,none⟩ (.string t)) l {S with nm:=t} {P with nm:=t}:=
 ⟨h.but.set _ _,h.rdr.stm hS,h.stm.put hS.s rfl (by rw[←h.stm.can];rfl) ⟨h.stm.txt.1,ht,h.stm.txt.2.2⟩ rfl rfl rfl rfl rfl⟩
theorem StR.en (h:StR C o B sb w W l S P) (hS:SyS C B sb) {t:ByteArray} (ht:t.size≤2000):StR C o B sb w (W.setCell ⟨sb,18,none⟩ (.string t)) l {S with en:=t} {P with en:=t}:=
 ⟨h.but.set _ _,h.rdr.stm hS,h.stm.put hS.s rfl (by rw[←h.stm.can];rfl) ⟨h.stm.txt.1,h.stm.txt.2.1,ht,h.stm.txt.2.2.2⟩ rfl rfl rfl rfl rfl⟩
theorem StR.ps (h:StR C o B sb w W l S P) (hS:SyS C B sb) {N:NL} {p:List ByteArray} (hp:N.l=p) (hN:lD B W N):StR C o B sb w (W.setCell ⟨sb,19,none⟩ N.v) l {S with ps:=N} {P with ps:=fA p}:=
 ⟨h.but.set _ _,h.rdr.stm hS,h.stm.putN hS.s rfl (by rw[←h.stm.can,←hp];rfl) h.stm.txt rfl rfl rfl hN h.stm.ls⟩
theorem StR.ls (h:StR C o B sb w W l S P) (hS:SyS C B sb) {N:NL} {p:List ByteArray} (hp:N.l=p) (hN:lD B W N):StR C o B sb w (W.setCell ⟨sb,20,none⟩ N.v) l {S with ls:=N} {P with ls:=fA p}:=
 ⟨h.but.set _ _,h.rdr.stm hS,h.stm.putN hS.s rfl (by rw[←h.stm.can,←hp];rfl) h.stm.txt rfl rfl rfl h.stm.ps hN⟩
end
def dfA (E:Nat) (P:SV) (l:List Tk):Sy SV:=aR (dL E l) fun nm r=>aR (ef E (ah 40) r) fun _ r1=>aR (dpS E r1) fun ps r2=>aR (uG E r2) fun ls r3=>aR (dL E r3) fun en r4=>.ok ({P with k:=7,nm:=nm,ps:=fA ps,ls:=fA ls,en:=en},r4)
theorem dfA_eq (E:Nat) (P:SV) (l:List Tk):(aR (dfS E l) fun x r=>.ok ({P with k:=7,nm:=x.1,ps:=fA x.2.1,ls:=fA x.2.2.1,en:=x.2.2.2},r))=dfA E P l:=by
 unfold dfS dfA
 cases dL E l with
 | error e=>rfl
 | ok a=>
  obtain⟨a1,a2⟩:=a;simp only[aQ]
  cases ef E (ah 40) a2 with
  | error e=>rfl
  | ok b=>
   obtain⟨b1,b2⟩:=b;simp only[aQ]
   cases dpS E b2 with
   | error e=>rfl
   | ok c=>
    obtain⟨c1,c2⟩:=c;simp only[aQ]
    cases uG E c2 with
    | error e=>rfl
    | ok d=>
     obtain⟨d1,d2⟩:=d;simp only[aQ]
     cases dL E d2 with
     | error e=>rfl
     | ok f=>obtain⟨f1,f2⟩:=f;rfl
theorem Hj {C:SyC} {l:List Tk} {o B sb:Nat} {S P:SV} (w:World) (hS:SyS C B sb) (hR:Syr C w l o) (hI:StIn B sb w S P) (sw:B≤w.heap.size) (hl:l≠[]) (lQ:P.ps=fA []) (sq:P.ls=fA []):Calls prog 100 #[.pointer (some ⟨C.z,0,none⟩),.pointer (some ⟨sb,0,none⟩)] w fun e w'=>iz C o B sb w (dfA C.E P l.tail) e w':=by
 obtain⟨pl,pk,ptg,pva,ppa,pnm,pen,pps,pls,pal,pye,pno⟩:=P;have lQ:pps=fA []:=lQ;have sq:pls=fA []:=sq;subst lQ sq;have H0:Hid (StR C o B sb w w l S _):=ab (⟨But2.refl _ _ _,hR,hI⟩);have HS:=ab hS;have vk:B≤w.heap.size:=sw;have HP0:=ab (ug w hR hl);have fQ:=ab (fun w l h=>vP (C:=C) (l:=l) (o:=o) w h)
 have vG:=ab (fun w l h=>Is (C:=C) (l:=l) (od:=o) w h)
 have kS:=ab (fun w l h=>sS (C:=C) (l:=l) (o:=o) (ah 40) w h)
 have nN:=ab (fun w l h=>sS (C:=C) (l:=l) (o:=o) (ah 41) w h)
 have HTY:=ab (fun w l h q=>pJ (C:=C) (l:=l) (o:=o) (ah 41) w h q)
 have qt:=ab (fun w l h q=>pK (C:=C) (l:=l) (o:=o) (ah 41) w h q)
 have HAH:=ab (fun w l h=>zd (C:=C) (l:=l) (o:=o) 1 w h (by decide))
 obtain⟨RR,bD⟩:∃RR,RR=dfA C.E ⟨pl,pk,ptg,pva,ppa,pnm,pen,fA [],fA [],pal,pye,pno⟩ l.tail:=⟨_,rfl⟩;rw[←bD];unfold dfA at bD;have HQ:=ab bD;clear hR hI hS bD sw hl;unfold ah at kS nN HTY qt HQ;generalize l.tail=l1 at *;go_enter func100,ntmps100;go_wp2_with fail;refine(aa HP0).mono ?_;rintro e w1 ⟨rfl,hb1,hR1⟩;have mL:=(aa H0).next (aa HS) hb1 hR1;have c1:=mL.stm.cell (k:=1) rfl;have f1:=mL.stm.fz 1;have H2:=ab (mL.kd (aa HS) 7);have qY:=ab (aa fQ _ l1 (aa H2).rdr);have ep:=ab (fun t r h=>oP (t:=t) (r:=r) (aa H2).rdr h)
 clear hb1 hR1 mL HP0;go_wp2_with fail;refine(aa qY).mono ?_;intro e w3 hp
 cases hq:dL C.E l1 with
 | error x=>
  obtain⟨er,i⟩:=x;obtain⟨am,rfl⟩:=dr hp hq;have bA:=ab ((aa H2).but.trans (But2.of am));have hQ:=aa HQ;rw[hq] at hQ;simp only[di] at hQ;have dV:=ab hQ;clear hp am hq hQ HQ;unfold aC;go_wp2_with fail;exact⟨rfl,fi (aa dV) (aa bA) rfl⟩
 | ok x=>
  obtain⟨t3,r3⟩:=x;obtain⟨am,rfl,cm⟩:=dt hp hq;have iQ:=aa ep _ _ hq;have hQ:=aa HQ;rw[hq] at hQ;simp only[aQ] at hQ;have HQ:=ab hQ;have hx:=(aa H2).next (aa HS) am cm;have cx:=hx.stm.cell (k:=17) rfl;have fx:=hx.stm.fz 17;have H3:=ab (hx.nm (aa HS) iQ);clear hp am hq hQ cm hx ep;have sK:=ab (aa kS _ r3 (aa H3).rdr);clear c1 f1;go_wp2_with fail;clear cx fx;refine(aa sK).mono ?_;intro e w4 hp
  cases hq:ef C.E ⟨#[40]⟩ r3 with
  | error x=>
   obtain⟨er,i⟩:=x;obtain⟨am,rfl⟩:=dr hp hq;have bA:=ab ((aa H3).but.trans (But2.of am));have hQ:=aa HQ;rw[hq] at hQ;simp only[di] at hQ;have dV:=ab hQ;clear hp am hq hQ HQ;unfold aC;go_wp2_with fail;exact⟨rfl,fi (aa dV) (aa bA) rfl⟩
  | ok x=>
   obtain⟨xu,r4⟩:=x;obtain⟨am,rfl,cm⟩:=dt hp hq;have hQ:=aa HQ;rw[hq] at hQ;simp only[aQ] at hQ;have HQ:=ab hQ;have hx:=(aa H3).next (aa HS) am cm;have H4:=ab hx;clear hp am hq hQ cm hx sK;unfold dpS at HQ;unfold ah at HQ;go_wp2_with fail
   cases h5:aL (ak C.E 0 r4) ⟨#[41]⟩
   ·have hQ:=aa HQ
    rw[ac (by rw[h5];decide)] at hQ
    have mh:=ab (aa qt _ r4 (aa H4).rdr h5);have HQ:=ab hQ;clear hQ h5;refine(aa mh).mono ?_;rintro e w5 ⟨rfl,hb5⟩;have H5:=ab ((aa H4).below hb5);have HNS5:=ab (aa vG _ r4 (aa H5).rdr);clear hb5 mh;go_wp2_with fail;refine(aa HNS5).mono ?_;intro e w6 hp
    cases hq:pX C.E r4 with
    | error x=>
     obtain⟨er,i⟩:=x;obtain⟨am,rfl⟩:=dr hp hq;have bA:=ab ((aa H5).but.trans (But2.of am));have hQ:=aa HQ;rw[hq] at hQ;simp only[di] at hQ;have dV:=ab hQ;clear hp am hq hQ HQ;unfold aC;go_wp2_with fail;exact⟨rfl,fi (aa dV) (aa bA) rfl⟩
    | ok x=>
     obtain⟨p6,r6⟩:=x;obtain⟨am,⟨NN,tP,oy,oz⟩,cm⟩:=dt hp hq;have hQ:=aa HQ;rw[hq] at hQ;simp only[aQ] at hQ;have HQ:=ab hQ;have hx:=(aa H5).next (aa HS) am cm;have ay:=(aa H5).but.size;have cx:=hx.stm.cell (k:=19) rfl;have fx:=hx.stm.fz 19;have H6:=ab (hx.ps (aa HS) oy (oz.mono (by omega)))
     clear hp am hq hQ cm hx ay oy oz;subst tP;unfold NL.v;have tW:=ab (aa nN _ r6 (aa H6).rdr);go_wp2_with fail;clear cx fx;refine(aa tW).mono ?_;intro e w6b hp
     cases hq:ef C.E ⟨#[41]⟩ r6 with
     | error x=>
      obtain⟨er,i⟩:=x;obtain⟨am,rfl⟩:=dr hp hq;have bA:=ab ((aa H6).but.trans (But2.of am));have hQ:=aa HQ;rw[hq] at hQ;simp only[di] at hQ;have dV:=ab hQ;clear hp am hq hQ HQ;unfold aC;go_wp2_with fail;exact⟨rfl,fi (aa dV) (aa bA) rfl⟩
     | ok x=>
      obtain⟨xu6,tE⟩:=x;obtain⟨am,rfl,cm⟩:=dt hp hq;have hQ:=aa HQ;rw[hq] at hQ;simp only[aQ] at hQ;have HQ:=ab hQ;have hx:=(aa H6).next (aa HS) am cm;have H6b:=ab hx;clear hp am hq hQ cm hx tW;unfold uG at HQ;unfold ah at HQ;have HA7:=ab (aa HAH _ tE (aa H6b).rdr);have eV:=ab (fun w=>uf (ak C.E 1 tE) ⟨#[44]⟩ w)
      generalize ht7:ak C.E 1 tE=t7 at *;have HT7:=ab ht7;clear ht7;unfold jt at HA7 eV;go_wp2_with fail;refine(aa HA7).mono ?_;rintro e w7 ⟨rfl,hb7⟩;have yV:=(aV w7.heap.size w7).alloc (aw _) (.cells #[.int .i64 (t7.k:Int),.string t7.t,.int .i64 (t7.a:Int)] 102);have H7:=ab (((aa H6b).below hb7).below yV);clear hb7 yV HA7
      by_cases ir:t7.k=1
      ·have q7:((t7.k:Int)==1)=true:=bt
       have hQ:=aa HQ;rw[af (.inl ir)] at hQ;have HQ:=ab hQ;clear hQ ir eV;have wH:=ab (aa vG _ tE (aa H7).rdr);have hB8:B≤w.heap.size:=vk;go_wp2_with fail;refine(aa wH).mono ?_;intro e w8b hp
       cases hq:pX C.E tE with
       | error x=>
        obtain⟨er,i⟩:=x;obtain⟨am,rfl⟩:=dr hp hq;have bA:=ab ((aa H7).but.trans (But2.of am));have hQ:=aa HQ;rw[hq] at hQ;simp only[di] at hQ;have dV:=ab hQ;clear hp am hq hQ HQ;unfold aC;go_wp2_with fail;exact⟨rfl,fi (aa dV) (aa bA) rfl⟩
       | ok x=>
        obtain⟨p8,r8⟩:=x;obtain⟨am,⟨NN,tP,oy,oz⟩,cm⟩:=dt hp hq;have hQ:=aa HQ;rw[hq] at hQ;simp only[aQ] at hQ;have HQ:=ab hQ;have hx:=(aa H7).next (aa HS) am cm;have ay:=(aa H7).but.size;have cx:=hx.stm.cell (k:=20) rfl;have fx:=hx.stm.fz 20;have H9:=ab (hx.ls (aa HS) oy (oz.mono (by omega)))
        clear hp am hq hQ cm hx ay oy oz;subst tP;unfold NL.v;have qX:=ab (aa fQ _ r8 (aa H9).rdr);have ep:=ab (fun t r h=>oP (t:=t) (r:=r) (aa H9).rdr h)
        go_wp2_with fail;clear cx fx;refine(aa qX).mono ?_;intro e w9 hp
        cases hq:dL C.E r8 with
        | error x=>
         obtain⟨er,i⟩:=x;obtain⟨am,rfl⟩:=dr hp hq;have bA:=ab ((aa H9).but.trans (But2.of am));have hQ:=aa HQ;rw[hq] at hQ;simp only[di] at hQ;have dV:=ab hQ;clear hp am hq hQ HQ;unfold aC;go_wp2_with fail;exact⟨rfl,fi (aa dV) (aa bA) rfl⟩
        | ok x=>
         obtain⟨t9,r9⟩:=x;obtain⟨am,rfl,cm⟩:=dt hp hq;have iQ:=aa ep _ _ hq;have hQ:=aa HQ;rw[hq] at hQ;simp only[aQ] at hQ;have HQ:=ab hQ;have hx:=(aa H9).next (aa HS) am cm;have cx:=hx.stm.cell (k:=18) rfl;have fx:=hx.stm.fz 18;have iw:=ab (hx.en (aa HS) iQ);clear hp am hq hQ cm hx ep;go_wp2_with fail;go_end0;exact(aa iw).done (aa HQ)
      ·have q7:((t7.k:Int)==1)=false:=bn
       cases h44:aL t7 ⟨#[44]⟩
       ·rw[h44] at eV
        have hQ:=aa HQ;rw[ac (by intro h;rcases h with h | h;exact ir h;rw[h44] at h;cases h)] at hQ
        simp only[aQ] at hQ;have HQ:=ab hQ;clear hQ ir h44;go_wp2_with fail;refine(aa eV _).mono ?_;rintro e w8 ⟨rfl,jh⟩;have H8:=ab ((aa H7).below jh);clear jh eV;have qX:=ab (aa fQ _ tE (aa H8).rdr);have ep:=ab (fun t r h=>oP (t:=t) (r:=r) (aa H8).rdr h)
        go_wp2_with fail;refine(aa qX).mono ?_;intro e w9 hp
        cases hq:dL C.E tE with
        | error x=>
         obtain⟨er,i⟩:=x;obtain⟨am,rfl⟩:=dr hp hq;have bA:=ab ((aa H8).but.trans (But2.of am));have hQ:=aa HQ;rw[hq] at hQ;simp only[di] at hQ;have dV:=ab hQ;clear hp am hq hQ HQ;unfold aC;go_wp2_with fail;exact⟨rfl,fi (aa dV) (aa bA) rfl⟩
        | ok x=>
         obtain⟨t9,r9⟩:=x;obtain⟨am,rfl,cm⟩:=dt hp hq;have iQ:=aa ep _ _ hq;have hQ:=aa HQ;rw[hq] at hQ;simp only[aQ] at hQ;have HQ:=ab hQ;have hx:=(aa H8).next (aa HS) am cm;have cx:=hx.stm.cell (k:=18) rfl;have fx:=hx.stm.fz 18;have iw:=ab (hx.en (aa HS) iQ);clear hp am hq hQ cm hx ep;go_wp2_with fail;go_end0;exact(aa iw).done (aa HQ)
       ·rw[h44] at eV
        have hQ:=aa HQ;rw[af (.inr h44)] at hQ;have HQ:=ab hQ;clear hQ ir h44;go_wp2_with fail;refine(aa eV _).mono ?_;rintro e w8 ⟨rfl,jh⟩;have H8:=ab ((aa H7).below jh);clear jh eV;have wH:=ab (aa vG _ tE (aa H8).rdr);have hB8:B≤w.heap.size:=vk;go_wp2_with fail;refine(aa wH).mono ?_;intro e w8b hp
        cases hq:pX C.E tE with
        | error x=>
         obtain⟨er,i⟩:=x;obtain⟨am,rfl⟩:=dr hp hq;have bA:=ab ((aa H8).but.trans (But2.of am));have hQ:=aa HQ;rw[hq] at hQ;simp only[di] at hQ;have dV:=ab hQ;clear hp am hq hQ HQ;unfold aC;go_wp2_with fail;exact⟨rfl,fi (aa dV) (aa bA) rfl⟩
        | ok x=>
         obtain⟨p8,r8⟩:=x;obtain⟨am,⟨NN,tP,oy,oz⟩,cm⟩:=dt hp hq;have hQ:=aa HQ;rw[hq] at hQ;simp only[aQ] at hQ;have HQ:=ab hQ;have hx:=(aa H8).next (aa HS) am cm;have ay:=(aa H8).but.size;have cx:=hx.stm.cell (k:=20) rfl;have fx:=hx.stm.fz 20;have H9:=ab (hx.ls (aa HS) oy (oz.mono (by omega)))
         clear hp am hq hQ cm hx ay oy oz;subst tP;unfold NL.v;have qX:=ab (aa fQ _ r8 (aa H9).rdr);have ep:=ab (fun t r h=>oP (t:=t) (r:=r) (aa H9).rdr h)
         go_wp2_with fail;clear cx fx;refine(aa qX).mono ?_;intro e w9 hp
         cases hq:dL C.E r8 with
         | error x=>
          obtain⟨er,i⟩:=x;obtain⟨am,rfl⟩:=dr hp hq;have bA:=ab ((aa H9).but.trans (But2.of am));have hQ:=aa HQ;rw[hq] at hQ;simp only[di] at hQ;have dV:=ab hQ;clear hp am hq hQ HQ;unfold aC;go_wp2_with fail;exact⟨rfl,fi (aa dV) (aa bA) rfl⟩
         | ok x=>
          obtain⟨t9,r9⟩:=x;obtain⟨am,rfl,cm⟩:=dt hp hq;have iQ:=aa ep _ _ hq;have hQ:=aa HQ;rw[hq] at hQ;simp only[aQ] at hQ;have HQ:=ab hQ;have hx:=(aa H9).next (aa HS) am cm;have cx:=hx.stm.cell (k:=18) rfl;have fx:=hx.stm.fz 18;have iw:=ab (hx.en (aa HS) iQ);clear hp am hq hQ cm hx ep;go_wp2_with fail;go_end0;exact(aa iw).done (aa HQ)
   ·have hQ:=aa HQ
    rw[af h5] at hQ;simp only[aQ] at hQ;have mh:=ab (aa HTY _ r4 (aa H4).rdr h5);unfold uG at hQ;unfold ah at hQ;have HQ:=ab hQ;clear hQ h5;refine(aa mh).mono ?_;rintro e w5 ⟨rfl,hb5,hR5⟩;have H5:=ab ((aa H4).next (aa HS) hb5 hR5);clear hb5 hR5 mh;generalize r4.tail=r5 at *;have HA7:=ab (aa HAH _ r5 (aa H5).rdr);have eV:=ab (fun w=>uf (ak C.E 1 r5) ⟨#[44]⟩ w)
    generalize ht7:ak C.E 1 r5=t7 at *;have HT7:=ab ht7;clear ht7;unfold jt at HA7 eV;go_wp2_with fail;refine(aa HA7).mono ?_;rintro e w7 ⟨rfl,hb7⟩;have yV:=(aV w7.heap.size w7).alloc (aw _) (.cells #[.int .i64 (t7.k:Int),.string t7.t,.int .i64 (t7.a:Int)] 102);have H7:=ab (((aa H5).below hb7).below yV);clear hb7 yV HA7
    by_cases ir:t7.k=1
    ·have q7:((t7.k:Int)==1)=true:=bt
     have hQ:=aa HQ;rw[af (.inl ir)] at hQ;have HQ:=ab hQ;clear hQ ir eV;have wH:=ab (aa vG _ r5 (aa H7).rdr);have hB8:B≤w.heap.size:=vk;go_wp2_with fail;refine(aa wH).mono ?_;intro e w8b hp
     cases hq:pX C.E r5 with
     | error x=>
      obtain⟨er,i⟩:=x;obtain⟨am,rfl⟩:=dr hp hq;have bA:=ab ((aa H7).but.trans (But2.of am));have hQ:=aa HQ;rw[hq] at hQ;simp only[di] at hQ;have dV:=ab hQ;clear hp am hq hQ HQ;unfold aC;go_wp2_with fail;exact⟨rfl,fi (aa dV) (aa bA) rfl⟩
     | ok x=>
      obtain⟨p8,r8⟩:=x;obtain⟨am,⟨NN,tP,oy,oz⟩,cm⟩:=dt hp hq;have hQ:=aa HQ;rw[hq] at hQ;simp only[aQ] at hQ;have HQ:=ab hQ;have hx:=(aa H7).next (aa HS) am cm;have ay:=(aa H7).but.size;have cx:=hx.stm.cell (k:=20) rfl;have fx:=hx.stm.fz 20;have H9:=ab (hx.ls (aa HS) oy (oz.mono (by omega)))
      clear hp am hq hQ cm hx ay oy oz;subst tP;unfold NL.v;have qX:=ab (aa fQ _ r8 (aa H9).rdr);have ep:=ab (fun t r h=>oP (t:=t) (r:=r) (aa H9).rdr h)
      go_wp2_with fail;clear cx fx;refine(aa qX).mono ?_;intro e w9 hp
      cases hq:dL C.E r8 with
      | error x=>
       obtain⟨er,i⟩:=x;obtain⟨am,rfl⟩:=dr hp hq;have bA:=ab ((aa H9).but.trans (But2.of am));have hQ:=aa HQ;rw[hq] at hQ;simp only[di] at hQ;have dV:=ab hQ;clear hp am hq hQ HQ;unfold aC;go_wp2_with fail;exact⟨rfl,fi (aa dV) (aa bA) rfl⟩
      | ok x=>
       obtain⟨t9,r9⟩:=x;obtain⟨am,rfl,cm⟩:=dt hp hq;have iQ:=aa ep _ _ hq;have hQ:=aa HQ;rw[hq] at hQ;simp only[aQ] at hQ;have HQ:=ab hQ;have hx:=(aa H9).next (aa HS) am cm;have cx:=hx.stm.cell (k:=18) rfl;have fx:=hx.stm.fz 18;have iw:=ab (hx.en (aa HS) iQ);clear hp am hq hQ cm hx ep;go_wp2_with fail;go_end0;exact(aa iw).done (aa HQ)
    ·have q7:((t7.k:Int)==1)=false:=bn
     cases h44:aL t7 ⟨#[44]⟩
     ·rw[h44] at eV
      have hQ:=aa HQ;rw[ac (by intro h;rcases h with h | h;exact ir h;rw[h44] at h;cases h)] at hQ
      simp only[aQ] at hQ;have HQ:=ab hQ;clear hQ ir h44;go_wp2_with fail;refine(aa eV _).mono ?_;rintro e w8 ⟨rfl,jh⟩;have H8:=ab ((aa H7).below jh);clear jh eV;have qX:=ab (aa fQ _ r5 (aa H8).rdr);have ep:=ab (fun t r h=>oP (t:=t) (r:=r) (aa H8).rdr h)
      go_wp2_with fail;refine(aa qX).mono ?_;intro e w9 hp
      cases hq:dL C.E r5 with
      | error x=>
       obtain⟨er,i⟩:=x;obtain⟨am,rfl⟩:=dr hp hq;have bA:=ab ((aa H8).but.trans (But2.of am));have hQ:=aa HQ;rw[hq] at hQ;simp only[di] at hQ;have dV:=ab hQ;clear hp am hq hQ HQ;unfold aC;go_wp2_with fail;exact⟨rfl,fi (aa dV) (aa bA) rfl⟩
      | ok x=>
       obtain⟨t9,r9⟩:=x;obtain⟨am,rfl,cm⟩:=dt hp hq;have iQ:=aa ep _ _ hq;have hQ:=aa HQ;rw[hq] at hQ;simp only[aQ] at hQ;have HQ:=ab hQ;have hx:=(aa H8).next (aa HS) am cm;have cx:=hx.stm.cell (k:=18) rfl;have fx:=hx.stm.fz 18;have iw:=ab (hx.en (aa HS) iQ);clear hp am hq hQ cm hx ep;go_wp2_with fail;go_end0;exact(aa iw).done (aa HQ)
     ·rw[h44] at eV
      have hQ:=aa HQ;rw[af (.inr h44)] at hQ;have HQ:=ab hQ;clear hQ ir h44;go_wp2_with fail;refine(aa eV _).mono ?_;rintro e w8 ⟨rfl,jh⟩;have H8:=ab ((aa H7).below jh);clear jh eV;have wH:=ab (aa vG _ r5 (aa H8).rdr);have hB8:B≤w.heap.size:=vk;go_wp2_with fail;refine(aa wH).mono ?_;intro e w8b hp
      cases hq:pX C.E r5 with
      | error x=>
       obtain⟨er,i⟩:=x;obtain⟨am,rfl⟩:=dr hp hq;have bA:=ab ((aa H8).but.trans (But2.of am));have hQ:=aa HQ;rw[hq] at hQ;simp only[di] at hQ;have dV:=ab hQ;clear hp am hq hQ HQ;unfold aC;go_wp2_with fail;exact⟨rfl,fi (aa dV) (aa bA) rfl⟩
      | ok x=>
       obtain⟨p8,r8⟩:=x;obtain⟨am,⟨NN,tP,oy,oz⟩,cm⟩:=dt hp hq;have hQ:=aa HQ;rw[hq] at hQ;simp only[aQ] at hQ;have HQ:=ab hQ;have hx:=(aa H8).next (aa HS) am cm;have ay:=(aa H8).but.size;have cx:=hx.stm.cell (k:=20) rfl;have fx:=hx.stm.fz 20;have H9:=ab (hx.ls (aa HS) oy (oz.mono (by omega)))
       clear hp am hq hQ cm hx ay oy oz;subst tP;unfold NL.v;have qX:=ab (aa fQ _ r8 (aa H9).rdr);have ep:=ab (fun t r h=>oP (t:=t) (r:=r) (aa H9).rdr h)
       go_wp2_with fail;clear cx fx;refine(aa qX).mono ?_;intro e w9 hp
       cases hq:dL C.E r8 with
       | error x=>
        obtain⟨er,i⟩:=x;obtain⟨am,rfl⟩:=dr hp hq;have bA:=ab ((aa H9).but.trans (But2.of am));have hQ:=aa HQ;rw[hq] at hQ;simp only[di] at hQ;have dV:=ab hQ;clear hp am hq hQ HQ;unfold aC;go_wp2_with fail;exact⟨rfl,fi (aa dV) (aa bA) rfl⟩
       | ok x=>
        obtain⟨t9,r9⟩:=x;obtain⟨am,rfl,cm⟩:=dt hp hq;have iQ:=aa ep _ _ hq;have hQ:=aa HQ;rw[hq] at hQ;simp only[aQ] at hQ;have HQ:=ab hQ;have hx:=(aa H9).next (aa HS) am cm;have cx:=hx.stm.cell (k:=18) rfl;have fx:=hx.stm.fz 18;have iw:=ab (hx.en (aa HS) iQ);clear hp am hq hQ cm hx ep;go_wp2_with fail;go_end0;exact(aa iw).done (aa HQ)
open Go.RowKit
theorem zj (m g:Bool) (w:World):Calls prog 137 #[.bool m,.bool g] w fun e w'=>e=.returned (.int .i64 (uE m g))∧w'=w:=by
 cases m <;> cases g <;> (go_enter func137,ntmps137;go_wp2_with fail;go_ret;exact⟨rfl,rfl⟩)
def set5 (w:World) (sb k:Nat) (U:PT):World:=((((w.setCell ⟨sb,k,none⟩ (.int .i64 U.k)).setCell ⟨sb,k+1,none⟩ (.string U.t)).setCell ⟨sb,k+2,none⟩ (.int .i64 U.n)).setCell ⟨sb,k+3,none⟩ (.string U.nm)).setCell ⟨sb,k+4,none⟩ (.slice U.xa U.len U.cap)
theorem mU (w:World) (sb k:Nat) (U:PT):(set5 w sb k U).heap.size=w.heap.size:=by unfold set5;simp only[og]
theorem lS (w:World) (sb k i:Nat) (U:PT) (h:i≠sb):(set5 w sb k U).heap[i]? =w.heap[i]? :=by
 unfold set5;rw[dh _ ⟨sb,k+4,none⟩ i _ h,dh _ ⟨sb,k+3,none⟩ i _ h,dh _ ⟨sb,k+2,none⟩ i _ h,dh _ ⟨sb,k+1,none⟩ i _ h,dh _ ⟨sb,k,none⟩ i _ h]
theorem Dn (w:World) (sb k:Nat) (U:PT) {A:Array Value} {t:TypeId} (h:w.heap[sb]? =some (.cells A t (0,0))):(set5 w sb k U).heap[sb]? =some (.cells (((((A.setIfInBounds k (.int .i64 U.k)).setIfInBounds (k+1) (.string U.t)).setIfInBounds (k+2) (.int .i64 U.n)).setIfInBounds (k+3) (.string U.nm)).setIfInBounds (k+4) (.slice U.xa U.len U.cap)) t (0,0)):=by
 unfold set5;exact fB _ sb (k+4) _ _ _ (fB _ sb (k+3) _ _ _ (fB _ sb (k+2) _ _ _ (fB _ sb (k+1) _ _ _ (fB _ sb k _ _ _ h))))
section
variable {C:SyC} {o B sb:Nat} {w W W':World} {l l':List Tk} {S P:SV}
theorem But2.set5 {z s:Nat} {a b:World} (h:But2 z s a b) (k:Nat) (U:PT):But2 z s a (set5 b s k U):=((((h.set _ _).set _ _).set _ _).set _ _).set _ _
theorem Syr.stm5 {k:Nat} {U:PT} (h:Syr C W l o) (hS:SyS C B sb):Syr C (set5 W sb k U) l o:=((((h.stm hS).stm hS).stm hS).stm hS).stm hS
theorem StIn.put5 {S' P':SV} {k:Nat} {U:PT} (h:StIn B sb w S P) (hsb:sb < B) (hc:((((S.cells.setIfInBounds k (.int .i64 U.k)).setIfInBounds (k+1) (.string U.t)).setIfInBounds (k+2) (.int .i64 U.n)).setIfInBounds (k+3) (.string U.nm)).setIfInBounds (k+4) (.slice U.xa U.len U.cap)=S'.cells) (cA:S'.can=P')
  (ht:S'.lab.size≤2000∧S'.nm.size≤2000∧S'.en.size≤2000∧S'.al.size≤2000∧S'.ye.size≤2000∧S'.no.size≤2000) (h1:bf B w S'.tg) (h2:bf B w S'.va) (h3:bf B w S'.pa) (h4:S'.ps=S.ps) (h5:S'.ls=S.ls):StIn B sb (set5 w sb k U) S' P':=by
 have hs:w.heap.size≤(Go.Proofs.YtlmnjbipfacniaaGreatDoor.set5 w sb k U).heap.size:=by rw[mU];exact aw _
 have hb:∀i,B≤i→i < w.heap.size→(Go.Proofs.YtlmnjbipfacniaaGreatDoor.set5 w sb k U).heap[i]? =w.heap[i]? :=fun i q _=>lS w sb k i U (by omega)
 refine⟨?_,cA,ht,h1.step hs hb,h2.step hs hb,h3.step hs hb,by rw[h4];exact h.ps.step hs hb,by rw[h5];exact h.ls.step hs hb⟩
 rw[←hc];exact Dn w sb k U h.box
theorem StR.va (h:StR C o B sb w W l S P) (hS:SyS C B sb) {U p:PT} (hc:U.can=p) (hl:bf B W U):StR C o B sb w (set5 W sb 7 U) l {S with va:=U} {P with va:=p}:=
 ⟨h.but.set5 _ _,h.rdr.stm5 hS,h.stm.put5 hS.s rfl (by rw[←h.stm.can,←hc];rfl) h.stm.txt h.stm.tg hl h.stm.pa rfl rfl⟩
theorem StR.tg (h:StR C o B sb w W l S P) (hS:SyS C B sb) {U p:PT} (hc:U.can=p) (hl:bf B W U):StR C o B sb w (set5 W sb 2 U) l {S with tg:=U} {P with tg:=p}:=
 ⟨h.but.set5 _ _,h.rdr.stm5 hS,h.stm.put5 hS.s rfl (by rw[←h.stm.can,←hc];rfl) h.stm.txt hl h.stm.va h.stm.pa rfl rfl⟩
theorem StR.pa (h:StR C o B sb w W l S P) (hS:SyS C B sb) {U p:PT} (hc:U.can=p) (hl:bf B W U):StR C o B sb w (set5 W sb 12 U) l {S with pa:=U} {P with pa:=p}:=
 ⟨h.but.set5 _ _,h.rdr.stm5 hS,h.stm.put5 hS.s rfl (by rw[←h.stm.can,←hc];rfl) h.stm.txt h.stm.tg h.stm.va hl rfl rfl⟩
end
open Go.RowKit
structure SyT (sb:Nat):Prop where
 g1:sb≠1
 g2:sb≠0
 g3:sb≠9
theorem qG {z s g o:Nat} {w w':World} {v:Value} (hb:But2 z s w w') (h:w.cell? ⟨g,o,none⟩=some v) (hz:z≠g) (hs:s≠g):w'.cell? ⟨g,o,none⟩=some v:=by
 have hg:=hb.block g (da _ _ h) (fun e=>hz e.symm) (fun e=>hs e.symm)
 rw[←h];unfold World.cell?;rw[hg]
theorem SyEnv.but2 {C:SyC} {sb:Nat} {w w':World} (h:SyEnv C w) (hb:But2 C.z sb w w') (hT:SyT sb):SyEnv C w':=by
 refine⟨fun K h1 h2=> ?_,fun K h1 h2=> ?_,qG hb h.sh0 h.z2 hT.g2, ?_,h.z1,h.z2,h.z3⟩
 ·obtain⟨a,b,c,d⟩:=h.sh K h1 h2
  exact⟨qG hb a h.z1 hT.g1,qG hb b h.z1 hT.g1,qG hb c h.z1 hT.g1,qG hb d h.z1 hT.g1⟩
 ·obtain⟨a,b,c,d,e⟩:=h.shx K h1 h2
  exact⟨qG hb a h.z2 hT.g2,qG hb b h.z2 hT.g2,qG hb c h.z2 hT.g2,qG hb d h.z2 hT.g2,qG hb e h.z2 hT.g2⟩
 ·obtain⟨te,pe,q⟩:=h.er
  exact⟨te,pe,qG hb q h.z3 hT.g3⟩
structure StX (C:SyC) (B sb:Nat) (w W:World) (l:List Tk) (S P:SV) (xb:Nat) (U x:PT):Prop where
 st:StR C 0 B sb w W l S P
 box:W.heap[xb]? =some (.cells (ai U) 24 (0,0))
 can:U.can=x
 lie:bf B W U
 low:B≤xb
section
variable {C:SyC} {B sb xb:Nat} {w W W':World} {l l':List Tk} {S P S' P':SV} {U x:PT}
theorem StX.next (h:StX C B sb w W l S P xb U x) (hS:SyS C B sb) (hb:But C.z W W') (hR:Syr C W' l' 0):StX C B sb w W' l' S P xb U x:=
 ⟨h.st.next hS hb hR,hb.row (by have:=hS.z;have:=h.low;omega) h.box,h.can,h.lie.but hb hS.z,h.low⟩
theorem StX.below (h:StX C B sb w W l S P xb U x) (hb:Below W.heap.size W W'):StX C B sb w W' l S P xb U x:=⟨h.st.below hb,an h.box hb,h.can,h.lie.below hb,h.low⟩
theorem StX.put (h:StX C B sb w W l S P xb U x) (hS:SyS C B sb) (h1:StR C 0 B sb w W' l' S' P') (hs:W.heap.size≤W'.heap.size) (ho:∀i,i≠sb→W'.heap[i]? =W.heap[i]?):StX C B sb w W' l' S' P' xb U x:=
 ⟨h1,(ho xb (by have:=hS.s;have:=h.low;omega)).trans h.box,h.can,h.lie.step hs fun i q _=>ho i (by have:=hS.s;omega),h.low⟩
end
theorem Jq {C:SyC} {l:List Tk} {B sb:Nat} {S P:SV} (w:World) (hS:SyS C B sb) (hT:SyT sb) (hR:Syr C w l 0) (hE:SyEnv C w) (hI:StIn B sb w S P) (sw:B≤w.heap.size) (kJ:P.tg=PT.nul) (nC:P.pa=PT.nul):Calls prog 103 #[.pointer (some ⟨C.z,0,none⟩),.pointer (some ⟨sb,0,none⟩)] w fun e w'=>iz C 0 B sb w (oc C.E 400 P l) e w':=by
 obtain⟨pl,pk,ptg,pva,ppa,pnm,pen,pps,pls,pal,pye,pno⟩:=P;have kJ:ptg=PT.nul:=kJ;have nC:ppa=PT.nul:=nC;subst kJ nC;have H0:Hid (StR C 0 B sb w w l S _):=ab (⟨But2.refl _ _ _,hR,hI⟩);have HS:=ab hS;have ru:=ab hT;have HE:=ab hE;have HAT:=ab (zL w hR);have HXP:Hid (∀l w,Syr C w l 0→SyEnv C w→Calls prog 136 #[.pointer (some ⟨C.z,0,none⟩)] w fun e w'=>fJ (eW w.heap.size) C 0 w (exS C.E 400 l) e w'):=ab (fun l w h k=>(DK 400 (aw _)).2.2.2 C l w h k)
 have mj:=ab (fun w l h k=>CJ (C:=C) (l:=l) (o:=0) w h k)
 have HTH:=ab (fun w=>ue 8 (ak C.E 0 l).a w)
 have HQY:=ab (fun w l h q=>pJ (C:=C) (l:=l) (o:=0) (ah 63) w h q)
 have HQN:=ab (fun w l h q=>pK (C:=C) (l:=l) (o:=0) (ah 63) w h q)
 have HGY:=ab (fun w l h q=>pJ (C:=C) (l:=l) (o:=0) (ah 61) w h q)
 have HGN:=ab (fun w l h q=>pK (C:=C) (l:=l) (o:=0) (ah 61) w h q)
 obtain⟨RR,bD⟩:∃RR,RR=oc C.E 400 ⟨pl,pk,PT.nul,pva,PT.nul,pnm,pen,pps,pls,pal,pye,pno⟩ l:=⟨_,rfl⟩;rw[←bD];unfold oc at bD;have HQ:=ab bD;have hBz:C.z < B:=hS.z;have hBs:sb < B:=hS.s;clear hR hE hI hS hT bD;unfold ah at HQY HQN HGY HGN;generalize (ak C.E 0 l).a=a0 at *;generalize hXF:exS C.E 400=XF at *;have HXF:=ab hXF;clear hXF;go_enter func103,ntmps103;go_wp2_with fail;refine(aa HAT).mono ?_;rintro e w1 ⟨rfl,hb1⟩;have H1:=ab ((aa H0).below hb1);have d6:=ab (aa HXP l w1 (aa H1).rdr ((aa HE).but2 (aa H1).but (aa ru)));clear hb1 HAT;go_wp2_with fail;refine(aa d6).mono ?_;intro e w2 hp
 cases hq:XF l with
 | error y=>
  obtain⟨er,i⟩:=y;obtain⟨am,rfl⟩:=dr hp hq;have bA:=ab ((aa H1).but.trans (But2.of am));have hQ:=aa HQ;rw[hq] at hQ;simp only[di] at hQ;have dV:=ab hQ;clear hp am hq hQ HQ;unfold aC;go_wp2_with fail;exact⟨rfl,fi (aa dV) (aa bA) rfl⟩
 | ok y=>
  obtain⟨x,r1⟩:=y;obtain⟨am,⟨U,rfl,cA,cL⟩,cm⟩:=dt hp hq;have hQ:=aa HQ;rw[hq] at hQ;simp only[aQ] at hQ;unfold evP at hQ;unfold ah at hQ;have HQ:=ab hQ;have cJ:=(aa H1).next (aa HS) am cm;have bp:Below w2.heap.size w2 (w2.alloc (.cells (ai U) 24)):=ba _;have sp:B≤w1.heap.size:=bv sw (aa H1).but.size;have H3:Hid (StX C B sb w (w2.alloc (.cells (ai U) 24)) r1 S _ w2.heap.size U x):=ab (⟨cJ.below bp,ax rfl,cA,(cL.mono sp).below bp,by have:=am.size;omega⟩)
  clear hp am hq hQ cA cL cm cJ bp d6 H1;unfold pv;unfold ai at H3;generalize hxb:w2.heap.size=xb at *;go_wp2_with fail;clear hxb
  cases hm:aL (ak C.E 0 r1) ⟨#[63]⟩
  ·have hQ:=aa HQ
   rw[ac (by rw[hm];decide)] at hQ
   simp only[aQ] at hQ;unfold uF at hQ;unfold ah at hQ;rw[aa HXF] at hQ;have HQ:=ab hQ;have tU:=ab (aa HQN _ r1 (aa H3).st.rdr hm);clear hQ hm;refine(aa tU).mono ?_;rintro e w4 ⟨rfl,hb4⟩;have H4:=ab ((aa H3).below hb4);clear hb4 tU H3;go_wp2_with fail;have HKF:=ab (fun w=>zj false false w)
   have rA:=ab (fun w=>zj false true w)
   cases hg:aL (ak C.E 0 r1) ⟨#[61]⟩
   ·have hQ:=aa HQ
    rw[ac (by rw[hg];decide)] at hQ
    simp only[aQ] at hQ;have HQ:=ab hQ;have pr:=ab (aa HGN _ r1 (aa H4).st.rdr hg);clear hQ hg rA;refine(aa pr).mono ?_;rintro e w6 ⟨rfl,hb6⟩;have H6:=ab ((aa H4).below hb6);clear hb6 pr H4;go_wp2_with fail;refine(aa HKF _).mono ?_;rintro e w7 ⟨rfl,rfl⟩;have h6:=aa H6;have c1:=h6.st.stm.cell (k:=1) rfl;have f1:=h6.st.stm.fz 1;have h7:=h6.put (aa HS) (h6.st.kd (aa HS) (uE false false)) (by rw[og];exact aw _) (fun i hi=>dh _ ⟨sb,1,none⟩ i _ hi)
    obtain⟨qk,qj,qi,qh,qg⟩:=du h7.box;have c7:=h7.st.stm.cell (k:=7) rfl;have c8:=h7.st.stm.cell (k:=8) rfl;have c9:=h7.st.stm.cell (k:=9) rfl;have sA:=h7.st.stm.cell (k:=10) rfl;have sy:=h7.st.stm.cell (k:=11) rfl;have f7:=h7.st.stm.fz 7;have f8:=h7.st.stm.fz 8;have f9:=h7.st.stm.fz 9;have f10:=h7.st.stm.fz 10;have f11:=h7.st.stm.fz 11;have H8:=ab (h7.put (aa HS) (h7.st.va (aa HS) h7.can h7.lie) (by rw[mU];exact aw _) (fun i hi=>lS _ _ _ _ _ hi))
    clear h6 h7;unfold set5 at H8;simp only[Nat.reduceAdd] at H8;go_wp2_with fail;go_end0;exact(aa H8).st.done (aa HQ)
   ·have hQ:=aa HQ
    rw[af hg] at hQ;have HQ:=ab hQ;have pr:=ab (aa HGY _ r1 (aa H4).st.rdr hg);clear hQ hg HKF;refine(aa pr).mono ?_;rintro e w6 ⟨rfl,hb6,hR6⟩;have H6:=ab ((aa H4).next (aa HS) hb6 hR6);clear hb6 hR6 pr H4;obtain⟨qk,qj,qi,qh,qg⟩:=du (aa H6).box;have ry:=ab (fun w=>AR U.k w)
    have tS:Hid (U.k=x.k):=ab (by rw[←(aa H6).can,yA])
    go_wp2_with fail
    cases kK:n5 U.k
    ·rw[kK] at ry
     have hQ:=aa HQ;rw[←aa tS,ac (by rw[kK];decide)] at hQ
     simp only[di] at hQ;have HQ:=ab hQ;clear hQ kK tS;refine(aa ry _).mono ?_;rintro e w7 ⟨rfl,rfl⟩;go_wp2_with fail;refine(aa HTH _).mono ?_;rintro e w7 ⟨rfl,rfl⟩;unfold aC;go_wp2_with fail;exact⟨rfl,fi (aa HQ) (aa H6).st.but rfl⟩
    ·rw[kK] at ry
     have hQ:=aa HQ;rw[←aa tS,af kK] at hQ;have HQ:=ab hQ;clear hQ kK tS;refine(aa ry _).mono ?_;rintro e w7 ⟨rfl,rfl⟩;clear qk qj qi qh qg ry;go_wp2_with fail;refine(aa rA _).mono ?_;rintro e w7 ⟨rfl,rfl⟩;have h6:=aa H6;have c1:=h6.st.stm.cell (k:=1) rfl;have f1:=h6.st.stm.fz 1;have h7:=h6.put (aa HS) (h6.st.kd (aa HS) (uE false true)) (by rw[og];exact aw _) (fun i hi=>dh _ ⟨sb,1,none⟩ i _ hi)
     obtain⟨qk,qj,qi,qh,qg⟩:=du h7.box;have c7:=h7.st.stm.cell (k:=7) rfl;have c8:=h7.st.stm.cell (k:=8) rfl;have c9:=h7.st.stm.cell (k:=9) rfl;have sA:=h7.st.stm.cell (k:=10) rfl;have sy:=h7.st.stm.cell (k:=11) rfl;have f7:=h7.st.stm.fz 7;have f8:=h7.st.stm.fz 8;have f9:=h7.st.stm.fz 9;have f10:=h7.st.stm.fz 10;have f11:=h7.st.stm.fz 11;have H8:=ab (h7.put (aa HS) (h7.st.va (aa HS) h7.can h7.lie) (by rw[mU];exact aw _) (fun i hi=>lS _ _ _ _ _ hi))
     clear h6 h7;unfold set5 at H8;simp only[Nat.reduceAdd] at H8;go_wp2_with fail;have h8:=aa H8;clear H8 c1 f1 qk qj qi qh qg c7 c8 c9 sA sy f7 f8 f9 f10 f11;obtain⟨w9,gV⟩:∃w9,w9=((((((w7.setCell ⟨sb,1,none⟩ (.int .i64 (uE false true))).setCell ⟨sb,7,none⟩ (.int .i64 U.k)).setCell ⟨sb,8,none⟩ (.string U.t)).setCell ⟨sb,9,none⟩ (.int .i64 U.n)).setCell ⟨sb,10,none⟩ (.string U.nm)).setCell ⟨sb,11,none⟩ (.slice U.xa U.len U.cap)):=⟨_,rfl⟩;rw[←gV] at h8 ⊢;clear gV;have H8:=ab h8;obtain⟨s0,s1,s2,s3,s4⟩:=du h8.box;obtain⟨S0,aN⟩:∃S0:World→Prop,S0=fun w'=>w'.cell? ⟨xb,0,none⟩=some (.int .i64 U.k)∧w'.cell? ⟨xb,1,none⟩=some (.string U.t)∧w'.cell? ⟨xb,2,none⟩=some (.int .i64 U.n)∧w'.cell? ⟨xb,3,none⟩=some (.string U.nm)∧w'.cell? ⟨xb,4,none⟩=some (.slice U.xa U.len U.cap):=⟨_,rfl⟩
     have ap:=ab aN;have bm:S0 w9.drew:=by rw[aN];exact⟨s0,s1,s2,s3,s4⟩
     have aW:Hid (∀W,W.heap[xb]? =some (.cells (ai U) 24 (0,0))→S0 W):=ab (fun W h=>by rw[aN];exact du h)
     have rG:=ab (h8.below (aV _ _).drew);have HRC:=ab (aa HXP r1.tail w9.drew (aa rG).st.rdr ((aa HE).but2 (aa rG).st.but (aa ru)));clear aN h8;refine gt 10 S0 ?_;intro F;refine aK F 0 ap bm ?_
     (try simp only[aH,aG])
     (try go_frame)
     refine aK F 1 ap bm ?_
     (try simp only[aH,aJ,aG])
     (try go_frame)
     refine aK F 2 ap bm ?_
     (try simp only[aH,aJ,aG])
     (try go_frame)
     refine aK F 3 ap bm ?_
     (try simp only[aH,aJ,aG])
     (try go_frame)
     refine ce 4 (fun K2 eD=> ?_)
     go_simp;refine(aa HRC).mono ?_;intro e lO hp
     cases hq:XF r1.tail with
     | error y=>
      obtain⟨er,i⟩:=y;obtain⟨am,rfl⟩:=dr hp hq;have bA:=ab ((aa rG).st.but.trans (But2.of am));have hQ:=aa HQ;rw[hq] at hQ;simp only[di] at hQ;have dV:=ab hQ;clear hp am hq hQ HQ;unfold aC;exact⟨rfl,fi (aa dV) (aa bA) rfl⟩
     | ok y=>
      obtain⟨yy,r9⟩:=y;obtain⟨am,⟨V2,rfl,yK,yJ⟩,cm⟩:=dt hp hq;have hQ:=aa HQ;rw[hq] at hQ;simp only[aQ] at hQ;have HQ:=ab hQ;have hs9:=(aa rG).st.but.size;have ew:=(aa rG).next (aa HS) am cm;have yQ:bf B lO V2:=yJ.mono (by omega)
      have iw:=ab ew;clear hp am hq hQ yJ cm bm;unfold pv;refine eD _ _ (aa aW _ ew.box) ?_;have bm:S0 lO:=aa aW _ ew.box;refine aK F 5 ap bm ?_
      (try simp only[aH,aJ,aG])
      (try go_frame)
      refine aK F 6 ap bm ?_
      (try simp only[aH,aJ,aG])
      (try go_frame)
      have c2:=ew.st.stm.cell (k:=2) rfl;have f2:=ew.st.stm.fz 2;have c3:=ew.st.stm.cell (k:=3) rfl;have f3:=ew.st.stm.fz 3;have c4:=ew.st.stm.cell (k:=4) rfl;have f4:=ew.st.stm.fz 4;have c5:=ew.st.stm.cell (k:=5) rfl;have f5:=ew.st.stm.fz 5;have c6:=ew.st.stm.cell (k:=6) rfl;have f6:=ew.st.stm.fz 6;refine ce 7 (fun K3 cC=> ?_)
      go_simp;have eL:=ew.put (aa HS) (ew.st.tg (aa HS) ew.can ew.lie) (by rw[mU];exact aw _) (fun i hi=>lS _ _ _ _ _ hi)
      have tu:bf B (set5 lO sb 2 U) V2:=yQ.step (by rw[mU];exact aw _) fun i hi _=>lS _ _ _ _ _ (by omega)
      refine cC _ _ (aa aW _ eL.box) ?_;clear bm c2 c3 c4 c5 c6 f2 f3 f4 f5 f6;have eL:StX C B sb w (((((lO.setCell ⟨sb,2,none⟩ (.int .i64 U.k)).setCell ⟨sb,3,none⟩ (.string U.t)).setCell ⟨sb,4,none⟩ (.int .i64 U.n)).setCell ⟨sb,5,none⟩ (.string U.nm)).setCell ⟨sb,6,none⟩ (.slice U.xa U.len U.cap)) r9 _ _ xb U x:=eL;have tu:bf B (((((lO.setCell ⟨sb,2,none⟩ (.int .i64 U.k)).setCell ⟨sb,3,none⟩ (.string U.t)).setCell ⟨sb,4,none⟩ (.int .i64 U.n)).setCell ⟨sb,5,none⟩ (.string U.nm)).setCell ⟨sb,6,none⟩ (.slice U.xa U.len U.cap)) V2:=tu;generalize (((((lO.setCell ⟨sb,2,none⟩ (.int .i64 U.k)).setCell ⟨sb,3,none⟩ (.string U.t)).setCell ⟨sb,4,none⟩ (.int .i64 U.n)).setCell ⟨sb,5,none⟩ (.string U.nm)).setCell ⟨sb,6,none⟩ (.slice U.xa U.len U.cap))=w11 at *;have bm:S0 w11:=aa aW _ eL.box;refine aK F 8 ap bm ?_
      (try simp only[aH,aJ,aG])
      (try go_frame)
      refine aK F 9 ap bm ?_
      (try simp only[aH,aJ,aG])
      (try go_frame)
      have d7:=eL.st.stm.cell (k:=7) rfl;have g7:=eL.st.stm.fz 7;have d8:=eL.st.stm.cell (k:=8) rfl;have g8:=eL.st.stm.fz 8;have d9:=eL.st.stm.cell (k:=9) rfl;have g9:=eL.st.stm.fz 9;have d10:=eL.st.stm.cell (k:=10) rfl;have g10:=eL.st.stm.fz 10;have d11:=eL.st.stm.cell (k:=11) rfl;have g11:=eL.st.stm.fz 11;refine gy (by kernel_rfl) rfl (by kernel_rfl) (fun K4 bw=> ?_)
      go_simp;refine bw _ _ ?_
      (try simp only[aH,aJ,aG])
      (try go_frame)
      have dY:=ab (eL.put (aa HS) (eL.st.va (aa HS) yK tu) (by rw[mU];exact aw _) (fun i hi=>lS _ _ _ _ _ hi)).st
      clear bw cC eD K4 K3 K2 F bm ap aW ew eL yQ tu yK hs9;go_wp2_with fail;go_end0;exact(aa dY).done (aa HQ)
  ·have hQ:=aa HQ
   rw[af hm] at hQ;have HQ:=ab hQ;have tU:=ab (aa HQY _ r1 (aa H3).st.rdr hm);clear hQ hm;refine(aa tU).mono ?_;rintro e w4 ⟨rfl,hb4,hR4⟩;have H3b:=ab ((aa H3).next (aa HS) hb4 hR4);have ig:=ab (aa mj w4 r1.tail hR4 ((aa HE).but2 (aa H3b).st.but (aa ru)));clear hb4 hR4 tU H3;go_wp2_with fail;refine(aa ig).mono ?_;intro e w5 hp
   cases hq:lV C.E r1.tail with
   | error y=>
    obtain⟨er,i⟩:=y;obtain⟨am,rfl⟩:=dr hp hq;have bA:=ab ((aa H3b).st.but.trans (But2.of am));have hQ:=aa HQ;rw[hq] at hQ;simp only[di] at hQ;have dV:=ab hQ;clear hp am hq hQ HQ;unfold aC;go_wp2_with fail;exact⟨rfl,fi (aa dV) (aa bA) rfl⟩
   | ok y=>
    obtain⟨pp,r2⟩:=y;obtain⟨am,⟨V,rfl,cA,cL⟩,cm⟩:=dt hp hq;have hQ:=aa HQ;rw[hq] at hQ;simp only[aQ] at hQ;unfold uF at hQ;unfold ah at hQ;rw[aa HXF] at hQ;have HQ:=ab hQ;have hs4:=(aa H3b).st.but.size;have gd:=(aa H3b).next (aa HS) am cm;have vz:=gd.st.stm.cell (k:=12) rfl;have vy:=gd.st.stm.cell (k:=13) rfl;have vx:=gd.st.stm.cell (k:=14) rfl;have vw:=gd.st.stm.cell (k:=15) rfl;have vv:=gd.st.stm.cell (k:=16) rfl;have f12:=gd.st.stm.fz 12;have f13:=gd.st.stm.fz 13;have f14:=gd.st.stm.fz 14;have f15:=gd.st.stm.fz 15;have f16:=gd.st.stm.fz 16;have H4:=ab (gd.put (aa HS) (gd.st.pa (aa HS) cA (cL.mono (by omega))) (by rw[mU];exact aw _) (fun i hi=>lS _ _ _ _ _ hi))
    clear hp am hq hQ cA cL cm gd ig H3b hs4;unfold pv;unfold set5 at H4;go_wp2_with fail;clear vz vy vx vw vv f12 f13 f14 f15 f16;have HKF:=ab (fun w=>zj true false w)
    have rA:=ab (fun w=>zj true true w)
    cases hg:aL (ak C.E 0 r2) ⟨#[61]⟩
    ·have hQ:=aa HQ
     rw[ac (by rw[hg];decide)] at hQ
     simp only[aQ] at hQ;have HQ:=ab hQ;have pr:=ab (aa HGN _ r2 (aa H4).st.rdr hg);clear hQ hg rA;refine(aa pr).mono ?_;rintro e w6 ⟨rfl,hb6⟩;have H6:=ab ((aa H4).below hb6);clear hb6 pr H4;go_wp2_with fail;refine(aa HKF _).mono ?_;rintro e w7 ⟨rfl,rfl⟩;have h6:=aa H6;have c1:=h6.st.stm.cell (k:=1) rfl;have f1:=h6.st.stm.fz 1;have h7:=h6.put (aa HS) (h6.st.kd (aa HS) (uE true false)) (by rw[og];exact aw _) (fun i hi=>dh _ ⟨sb,1,none⟩ i _ hi)
     obtain⟨qk,qj,qi,qh,qg⟩:=du h7.box;have c7:=h7.st.stm.cell (k:=7) rfl;have c8:=h7.st.stm.cell (k:=8) rfl;have c9:=h7.st.stm.cell (k:=9) rfl;have sA:=h7.st.stm.cell (k:=10) rfl;have sy:=h7.st.stm.cell (k:=11) rfl;have f7:=h7.st.stm.fz 7;have f8:=h7.st.stm.fz 8;have f9:=h7.st.stm.fz 9;have f10:=h7.st.stm.fz 10;have f11:=h7.st.stm.fz 11;have H8:=ab (h7.put (aa HS) (h7.st.va (aa HS) h7.can h7.lie) (by rw[mU];exact aw _) (fun i hi=>lS _ _ _ _ _ hi))
     clear h6 h7;unfold set5 at H8;simp only[Nat.reduceAdd] at H8;go_wp2_with fail;go_end0;exact(aa H8).st.done (aa HQ)
    ·have hQ:=aa HQ
     rw[af hg] at hQ;have HQ:=ab hQ;have pr:=ab (aa HGY _ r2 (aa H4).st.rdr hg);clear hQ hg HKF;refine(aa pr).mono ?_;rintro e w6 ⟨rfl,hb6,hR6⟩;have H6:=ab ((aa H4).next (aa HS) hb6 hR6);clear hb6 hR6 pr H4;obtain⟨qk,qj,qi,qh,qg⟩:=du (aa H6).box;have ry:=ab (fun w=>AR U.k w)
     have tS:Hid (U.k=x.k):=ab (by rw[←(aa H6).can,yA])
     go_wp2_with fail
     cases kK:n5 U.k
     ·rw[kK] at ry
      have hQ:=aa HQ;rw[←aa tS,ac (by rw[kK];decide)] at hQ
      simp only[di] at hQ;have HQ:=ab hQ;clear hQ kK tS;refine(aa ry _).mono ?_;rintro e w7 ⟨rfl,rfl⟩;go_wp2_with fail;refine(aa HTH _).mono ?_;rintro e w7 ⟨rfl,rfl⟩;unfold aC;go_wp2_with fail;exact⟨rfl,fi (aa HQ) (aa H6).st.but rfl⟩
     ·rw[kK] at ry
      have hQ:=aa HQ;rw[←aa tS,af kK] at hQ;have HQ:=ab hQ;clear hQ kK tS;refine(aa ry _).mono ?_;rintro e w7 ⟨rfl,rfl⟩;clear qk qj qi qh qg ry;go_wp2_with fail;refine(aa rA _).mono ?_;rintro e w7 ⟨rfl,rfl⟩;have h6:=aa H6;have c1:=h6.st.stm.cell (k:=1) rfl;have f1:=h6.st.stm.fz 1;have h7:=h6.put (aa HS) (h6.st.kd (aa HS) (uE true true)) (by rw[og];exact aw _) (fun i hi=>dh _ ⟨sb,1,none⟩ i _ hi)
      obtain⟨qk,qj,qi,qh,qg⟩:=du h7.box;have c7:=h7.st.stm.cell (k:=7) rfl;have c8:=h7.st.stm.cell (k:=8) rfl;have c9:=h7.st.stm.cell (k:=9) rfl;have sA:=h7.st.stm.cell (k:=10) rfl;have sy:=h7.st.stm.cell (k:=11) rfl;have f7:=h7.st.stm.fz 7;have f8:=h7.st.stm.fz 8;have f9:=h7.st.stm.fz 9;have f10:=h7.st.stm.fz 10;have f11:=h7.st.stm.fz 11;have H8:=ab (h7.put (aa HS) (h7.st.va (aa HS) h7.can h7.lie) (by rw[mU];exact aw _) (fun i hi=>lS _ _ _ _ _ hi))
      clear h6 h7;unfold set5 at H8;simp only[Nat.reduceAdd] at H8;go_wp2_with fail;have h8:=aa H8;clear H8 c1 f1 qk qj qi qh qg c7 c8 c9 sA sy f7 f8 f9 f10 f11;obtain⟨w9,gV⟩:∃w9,w9=((((((w7.setCell ⟨sb,1,none⟩ (.int .i64 (uE true true))).setCell ⟨sb,7,none⟩ (.int .i64 U.k)).setCell ⟨sb,8,none⟩ (.string U.t)).setCell ⟨sb,9,none⟩ (.int .i64 U.n)).setCell ⟨sb,10,none⟩ (.string U.nm)).setCell ⟨sb,11,none⟩ (.slice U.xa U.len U.cap)):=⟨_,rfl⟩;rw[←gV] at h8 ⊢;clear gV;have H8:=ab h8;obtain⟨s0,s1,s2,s3,s4⟩:=du h8.box;obtain⟨S0,aN⟩:∃S0:World→Prop,S0=fun w'=>w'.cell? ⟨xb,0,none⟩=some (.int .i64 U.k)∧w'.cell? ⟨xb,1,none⟩=some (.string U.t)∧w'.cell? ⟨xb,2,none⟩=some (.int .i64 U.n)∧w'.cell? ⟨xb,3,none⟩=some (.string U.nm)∧w'.cell? ⟨xb,4,none⟩=some (.slice U.xa U.len U.cap):=⟨_,rfl⟩
      have ap:=ab aN;have bm:S0 w9.drew:=by rw[aN];exact⟨s0,s1,s2,s3,s4⟩
      have aW:Hid (∀W,W.heap[xb]? =some (.cells (ai U) 24 (0,0))→S0 W):=ab (fun W h=>by rw[aN];exact du h)
      have rG:=ab (h8.below (aV _ _).drew);have HRC:=ab (aa HXP r2.tail w9.drew (aa rG).st.rdr ((aa HE).but2 (aa rG).st.but (aa ru)));clear aN h8;refine gt 10 S0 ?_;intro F;refine aK F 0 ap bm ?_
      (try simp only[aH,aG])
      (try go_frame)
      refine aK F 1 ap bm ?_
      (try simp only[aH,aJ,aG])
      (try go_frame)
      refine aK F 2 ap bm ?_
      (try simp only[aH,aJ,aG])
      (try go_frame)
      refine aK F 3 ap bm ?_
      (try simp only[aH,aJ,aG])
      (try go_frame)
      refine ce 4 (fun K2 eD=> ?_)
      go_simp;refine(aa HRC).mono ?_;intro e lO hp
      cases hq:XF r2.tail with
      | error y=>
       obtain⟨er,i⟩:=y;obtain⟨am,rfl⟩:=dr hp hq;have bA:=ab ((aa rG).st.but.trans (But2.of am));have hQ:=aa HQ;rw[hq] at hQ;simp only[di] at hQ;have dV:=ab hQ;clear hp am hq hQ HQ;unfold aC;exact⟨rfl,fi (aa dV) (aa bA) rfl⟩
      | ok y=>
       obtain⟨yy,r9⟩:=y;obtain⟨am,⟨V2,rfl,yK,yJ⟩,cm⟩:=dt hp hq;have hQ:=aa HQ;rw[hq] at hQ;simp only[aQ] at hQ;have HQ:=ab hQ;have hs9:=(aa rG).st.but.size;have ew:=(aa rG).next (aa HS) am cm;have yQ:bf B lO V2:=yJ.mono (by omega)
       have iw:=ab ew;clear hp am hq hQ yJ cm bm;unfold pv;refine eD _ _ (aa aW _ ew.box) ?_;have bm:S0 lO:=aa aW _ ew.box;refine aK F 5 ap bm ?_
       (try simp only[aH,aJ,aG])
       (try go_frame)
       refine aK F 6 ap bm ?_
       (try simp only[aH,aJ,aG])
       (try go_frame)
       have c2:=ew.st.stm.cell (k:=2) rfl;have f2:=ew.st.stm.fz 2;have c3:=ew.st.stm.cell (k:=3) rfl;have f3:=ew.st.stm.fz 3;have c4:=ew.st.stm.cell (k:=4) rfl;have f4:=ew.st.stm.fz 4;have c5:=ew.st.stm.cell (k:=5) rfl;have f5:=ew.st.stm.fz 5;have c6:=ew.st.stm.cell (k:=6) rfl;have f6:=ew.st.stm.fz 6;refine ce 7 (fun K3 cC=> ?_)
       go_simp;have eL:=ew.put (aa HS) (ew.st.tg (aa HS) ew.can ew.lie) (by rw[mU];exact aw _) (fun i hi=>lS _ _ _ _ _ hi)
       have tu:bf B (set5 lO sb 2 U) V2:=yQ.step (by rw[mU];exact aw _) fun i hi _=>lS _ _ _ _ _ (by omega)
       refine cC _ _ (aa aW _ eL.box) ?_;clear bm c2 c3 c4 c5 c6 f2 f3 f4 f5 f6;have eL:StX C B sb w (((((lO.setCell ⟨sb,2,none⟩ (.int .i64 U.k)).setCell ⟨sb,3,none⟩ (.string U.t)).setCell ⟨sb,4,none⟩ (.int .i64 U.n)).setCell ⟨sb,5,none⟩ (.string U.nm)).setCell ⟨sb,6,none⟩ (.slice U.xa U.len U.cap)) r9 _ _ xb U x:=eL;have tu:bf B (((((lO.setCell ⟨sb,2,none⟩ (.int .i64 U.k)).setCell ⟨sb,3,none⟩ (.string U.t)).setCell ⟨sb,4,none⟩ (.int .i64 U.n)).setCell ⟨sb,5,none⟩ (.string U.nm)).setCell ⟨sb,6,none⟩ (.slice U.xa U.len U.cap)) V2:=tu;generalize (((((lO.setCell ⟨sb,2,none⟩ (.int .i64 U.k)).setCell ⟨sb,3,none⟩ (.string U.t)).setCell ⟨sb,4,none⟩ (.int .i64 U.n)).setCell ⟨sb,5,none⟩ (.string U.nm)).setCell ⟨sb,6,none⟩ (.slice U.xa U.len U.cap))=w11 at *;have bm:S0 w11:=aa aW _ eL.box;refine aK F 8 ap bm ?_
       (try simp only[aH,aJ,aG])
       (try go_frame)
       refine aK F 9 ap bm ?_
       (try simp only[aH,aJ,aG])
       (try go_frame)
       have d7:=eL.st.stm.cell (k:=7) rfl;have g7:=eL.st.stm.fz 7;have d8:=eL.st.stm.cell (k:=8) rfl;have g8:=eL.st.stm.fz 8;have d9:=eL.st.stm.cell (k:=9) rfl;have g9:=eL.st.stm.fz 9;have d10:=eL.st.stm.cell (k:=10) rfl;have g10:=eL.st.stm.fz 10;have d11:=eL.st.stm.cell (k:=11) rfl;have g11:=eL.st.stm.fz 11;refine gy (by kernel_rfl) rfl (by kernel_rfl) (fun K4 bw=> ?_)
       go_simp;refine bw _ _ ?_
       (try simp only[aH,aJ,aG])
       (try go_frame)
       have dY:=ab (eL.put (aa HS) (eL.st.va (aa HS) yK tu) (by rw[mU];exact aw _) (fun i hi=>lS _ _ _ _ _ hi)).st
       clear bw cC eD K4 K3 K2 F bm ap aW ew eL yQ tu yK hs9;go_wp2_with fail;go_end0;exact(aa dY).done (aa HQ)
open Go.RowKit
theorem rS {w:World} {z:Nat} {ty:TypeId} {v0 v1 v2:Value} (h:w.heap[z]? =some (.cells #[v0,v1,v2] ty (0,0))):w.cell? ⟨z,0,none⟩=some v0∧w.cell? ⟨z,1,none⟩=some v1∧w.cell? ⟨z,2,none⟩=some v2:=by
 refine⟨?_, ?_, ?_⟩ <;> (rw[eB _ _ _ _ _ _ h];rfl)
structure StD (C:SyC) (B sb:Nat) (w W:World) (l:List Tk) (S P:SV) (tb:Nat) (t u:Tk):Prop where
 st:StR C 0 B sb w W l S P
 bt:W.heap[tb]? =some (.cells #[.int .i64 (t.k:Int),.string t.t,.int .i64 (t.a:Int)] 102 (0,0))
 bu:W.heap[tb+1]? =some (.cells #[.int .i64 (u.k:Int),.string u.t,.int .i64 (u.a:Int)] 102 (0,0))
theorem StD.below {C:SyC} {B sb tb:Nat} {w W W':World} {l:List Tk} {S P:SV} {t u:Tk} (h:StD C B sb w W l S P tb t u) (hb:Below W.heap.size W W'):StD C B sb w W' l S P tb t u:=⟨h.st.below hb,an h.bt hb,an h.bu hb⟩
section
variable {E:Nat} {P:SV} {l:List Tk}
theorem ddS_no (h:(ak E 0 l).k=0∨aL (ak E 0 l) (ah 58)=true):el E 400 P l=.ok ({P with k:=1},l):=by unfold el;rw[af h]
theorem MZ (h:¬((ak E 0 l).k=0∨aL (ak E 0 l) (ah 58)=true)) (h2:fL (ak E 0 l) mZ=true∧(ak E 1 l).k=1):el E 400 P l=dfA E P l.tail:=by unfold el;rw[ac h,af h2,dfA_eq]
theorem Ly (h:¬((ak E 0 l).k=0∨aL (ak E 0 l) (ah 58)=true)) (h2:¬(fL (ak E 0 l) mZ=true∧(ak E 1 l).k=1)) (h3:(ak E 0 l).k=1∧aL (ak E 1 l) ju=true):el E 400 P l=aR (dL E l) fun nm r=>aR (ef E ju r) fun _ q=>aR (lV E q) fun p m=>.ok ({P with k:=6,nm:=nm,pa:=p},m):=by unfold el;rw[ac h,ac h2,af h3]
theorem ddS_ev (h:¬((ak E 0 l).k=0∨aL (ak E 0 l) (ah 58)=true)) (h2:¬(fL (ak E 0 l) mZ=true∧(ak E 1 l).k=1)) (h3:¬((ak E 0 l).k=1∧aL (ak E 1 l) ju=true)):el E 400 P l=oc E 400 P l:=by unfold el;rw[ac h,ac h2,ac h3]
end
theorem iz.from {C:SyC} {o B sb:Nat} {a b c:World} {R:Sy SV} {e:Ending} (h:But2 C.z sb a b) (hp:iz C o B sb b R e c):iz C o B sb a R e c:=⟨h.trans hp.1,hp.2⟩
theorem zn {C:SyC} {l:List Tk} {B sb:Nat} {S P:SV} (w:World) (hS:SyS C B sb) (hT:SyT sb) (hR:Syr C w l 0) (hE:SyEnv C w) (hI:StIn B sb w S P) (sw:B≤w.heap.size) (kJ:P.tg=PT.nul) (nC:P.pa=PT.nul) (lQ:P.ps=fA []) (sq:P.ls=fA []):Calls prog 54 #[.pointer (some ⟨C.z,0,none⟩),.pointer (some ⟨sb,0,none⟩)] w fun e w'=>iz C 0 B sb w (el C.E 400 P l) e w':=by
 have H0:Hid (StR C 0 B sb w w l S P):=ab (⟨But2.refl _ _ _,hR,hI⟩);have HS:=ab hS;have ru:=ab hT;have HE:=ab hE;have HA0:=ab (zd 0 w hR (by decide))
 have HA1:=ab (fun w h=>zd (C:=C) (l:=l) (o:=0) 1 w h (by decide))
 have pG:=ab (fun W (h:StR C 0 B sb w W l S P) (hl:l≠[])=>Hj W hS h.rdr h.stm (bv sw h.but.size) hl lQ sq)
 have HEV:=ab (fun W (h:StR C 0 B sb w W l S P)=>Jq W hS hT h.rdr (hE.but2 h.but hT) h.stm (bv sw h.but.size) kJ nC)
 have mj:=ab (fun w l h k=>CJ (C:=C) (l:=l) (o:=0) w h k)
 have fQ:=ab (fun w l h=>vP (C:=C) (l:=l) (o:=0) w h)
 have rz:=ab (fun w l h=>sS (C:=C) (l:=l) (o:=0) ju w h)
 obtain⟨RR,bD⟩:∃RR,RR=el C.E 400 P l:=⟨_,rfl⟩;rw[←bD];have bO:=ab (fun h=>bD.trans (ddS_no (P:=P) h))
 have aU:=ab (fun h h2=>bD.trans (MZ (P:=P) h h2))
 have bN:=ab (fun h h2 h3=>bD.trans (Ly (P:=P) h h2 h3))
 have dQ:=ab (fun h h2 h3=>bD.trans (ddS_ev (P:=P) h h2 h3))
 have sL:=ab (fun h=>yt (E:=C.E) (l:=l) h)
 have HIT:=ab (fun s w=>uf (ak C.E 0 l) s w)
 have HIU:=ab (fun s w=>uf (ak C.E 1 l) s w)
 have sN:=ab (fun s w=>zg (ak C.E 0 l) s w)
 have hBs:sb < B:=hS.s;clear hR hE hI hS hT bD kJ nC lQ sq;unfold ah at bO aU bN dQ;unfold mZ at aU bN dQ;unfold ju at bN dQ;unfold ju at rz;generalize ak C.E 0 l=t at *;generalize ak C.E 1 l=u at *;unfold jt at HA0 HA1 HIT HIU sN;go_enter func54,ntmps54;go_wp2_with fail;refine(aa HA0).mono ?_;rintro e w1 ⟨rfl,hb1⟩;have H1:=ab ((aa H0).below hb1);have HA1b:=ab (aa HA1 w1 (aa H1).rdr);clear hb1 HA0 HA1;go_wp2_with fail;refine(aa HA1b).mono ?_;rintro e w2 ⟨rfl,hb2⟩;have H3:=ab (show StD C B sb w ((w2.alloc (.cells #[.int .i64 (t.k:Int),.string t.t,.int .i64 (t.a:Int)] 102)).alloc (.cells #[.int .i64 (u.k:Int),.string u.t,.int .i64 (u.a:Int)] 102)) l S P w2.heap.size t u from
  ⟨((((aa H1).below hb2).below (ba _)).below (ba _)),ci (by rw[dS];omega) (ax rfl),ax (by rw[dS])⟩)
 clear hb2 HA1b H1 H0;generalize htb:w2.heap.size=tb at *;obtain⟨tc0a,tc1a,tc2a⟩:=rS (aa H3).bt;obtain⟨uc0a,uc1a,uc2a⟩:=rS (aa H3).bu
 by_cases k0:t.k=0
 ·have q0:((t.k:Int)==0)=true:=bt
  have HQ:=ab (aa bO (.inl k0));clear k0 bO aU bN dQ;have c1:=(aa H3).st.stm.cell (k:=1) rfl;have f1:=(aa H3).st.stm.fz 1;have H9:=ab ((aa H3).st.kd (aa HS) 1);go_wp2_with fail;go_end0;exact(aa H9).done (aa HQ)
 ·have q0:((t.k:Int)==0)=false:=bn
  cases s58:aL t ⟨#[58]⟩
  ·have mo:=ab (aa HIT ⟨#[58]⟩)
   rw[s58] at mo;have oE:Hid (¬(t.k=0∨aL t ⟨#[58]⟩=true)):=ab (fun h=>by rcases h with h | h;exact k0 h;rw[s58] at h;cases h)
   clear k0 s58;go_wp2_with fail;refine(aa mo _).mono ?_;rintro e w4 ⟨rfl,hb4⟩;have H4:=ab ((aa H3).below hb4);clear hb4;clear tc0a tc1a tc2a uc0a uc1a uc2a;obtain⟨tc0b,tc1b,tc2b⟩:=rS (aa H4).bt;obtain⟨uc0b,uc1b,uc2b⟩:=rS (aa H4).bu;have mS:=ab (aa sN ⟨#[68,69,70,73,78,69]⟩)
   cases hD:fL t ⟨#[68,69,70,73,78,69]⟩
   ·rw[hD] at mS
    have kS:Hid (¬(fL t ⟨#[68,69,70,73,78,69]⟩=true∧u.k=1)):=ab (fun h=>by have h1:=h.1;rw[hD] at h1;cases h1)
    clear hD;go_wp2_with fail;refine(aa mS _).mono ?_;rintro e w4b ⟨rfl,hb4⟩;have jm:=ab ((aa H4).below hb4);clear hb4;clear tc0b tc1b tc2b uc0b uc1b uc2b;obtain⟨tc0c,tc1c,tc2c⟩:=rS (aa jm).bt;obtain⟨uc0c,uc1c,uc2c⟩:=rS (aa jm).bu
    by_cases k1:t.k=1
    ·have q1:((t.k:Int)==1)=true:=bt
     cases hI:aL u ⟨#[58,61]⟩
     ·have jR:=ab (aa HIU ⟨#[58,61]⟩)
      rw[hI] at jR;have HQ:=ab (aa dQ (aa oE) (aa kS) (fun h=>by have h2:=h.2;rw[hI] at h2;cases h2))
      clear k1 hI;go_wp2_with fail;refine(aa jR _).mono ?_;rintro e w5a ⟨rfl,hb5⟩;have vN:=ab ((aa jm).below hb5);clear hb5;have tA:=ab (aa HEV _ (aa vN).st);go_wp2_with fail;refine(aa tA).mono ?_;intro e w9 hp;have sI:=ab (iz.from (aa vN).st.but hp)
      cases hq:oc C.E 400 P l with
      | error y=>
       obtain⟨er,i⟩:=y;have fd:=ab ((aa HQ).trans hq);obtain⟨am,rfl⟩:=xY hp hq;have gY:=ab ((aa vN).st.but.trans am);clear hp hq am;unfold aC;go_wp2_with fail;exact⟨rfl,fi (aa fd) (aa gY) rfl⟩
      | ok y=>
       obtain⟨P9,r9⟩:=y;have fd:=ab ((aa HQ).trans hq);obtain⟨am,rfl,hR9,S9,oA⟩:=ym hp hq;have HZ:=ab (And.intro ((aa vN).st.but.trans am) (And.intro hR9 oA));clear hp hq am hR9 oA;go_wp2_with fail;go_end0;exact wP (aa fd) (aa HZ).1 rfl (aa HZ).2.1 (aa HZ).2.2
     ·have jR:=ab (aa HIU ⟨#[58,61]⟩)
      rw[hI] at jR;have HQ:=ab (aa bN (aa oE) (aa kS) ⟨k1,hI⟩);clear k1 hI;go_wp2_with fail;refine(aa jR _).mono ?_;rintro e w5a ⟨rfl,hb5⟩;have vN:=ab ((aa jm).below hb5);clear hb5;have c1:=(aa vN).st.stm.cell (k:=1) rfl;have f1:=(aa vN).st.stm.fz 1;have H6:=ab ((aa vN).st.kd (aa HS) 6);have nM:=ab (aa fQ _ l (aa H6).rdr);have ep:=ab (fun t r h=>oP (t:=t) (r:=r) (aa H6).rdr h)
      go_wp2_with fail;clear c1 f1;refine(aa nM).mono ?_;intro e w6 hp
      cases hq:dL C.E l with
      | error x=>
       obtain⟨er,i⟩:=x;obtain⟨am,rfl⟩:=dr hp hq;have bA:=ab ((aa H6).but.trans (But2.of am));have hQ:=aa HQ;rw[hq] at hQ;simp only[di] at hQ;have dV:=ab hQ;clear hp am hq hQ HQ;unfold aC;go_wp2_with fail;exact⟨rfl,fi (aa dV) (aa bA) rfl⟩
      | ok x=>
       obtain⟨t6,r6⟩:=x;obtain⟨am,rfl,cm⟩:=dt hp hq;have iQ:=aa ep _ _ hq;have hQ:=aa HQ;rw[hq] at hQ;simp only[aQ] at hQ;have HQ:=ab hQ;have hx:=(aa H6).next (aa HS) am cm;have cx:=hx.stm.cell (k:=17) rfl;have fx:=hx.stm.fz 17;have H7:=ab (hx.nm (aa HS) iQ);have tW:=ab (aa rz _ r6 (aa H7).rdr);clear hp am hq hQ cm hx ep;go_wp2_with fail;clear cx fx;refine(aa tW).mono ?_;intro e w7 hp
       cases hq:ef C.E ⟨#[58,61]⟩ r6 with
       | error x=>
        obtain⟨er,i⟩:=x;obtain⟨am,rfl⟩:=dr hp hq;have bA:=ab ((aa H7).but.trans (But2.of am));have hQ:=aa HQ;rw[hq] at hQ;simp only[di] at hQ;have dV:=ab hQ;clear hp am hq hQ HQ;unfold aC;go_wp2_with fail;exact⟨rfl,fi (aa dV) (aa bA) rfl⟩
       | ok x=>
        obtain⟨xu7,r7⟩:=x;obtain⟨am,rfl,cm⟩:=dt hp hq;have hQ:=aa HQ;rw[hq] at hQ;simp only[aQ] at hQ;have HQ:=ab hQ;have hx:=(aa H7).next (aa HS) am cm;have H8:=ab hx;have HP8:=ab (aa mj _ r7 hx.rdr ((aa HE).but2 hx.but (aa ru)));clear hp am hq hQ cm hx;go_wp2_with fail;refine(aa HP8).mono ?_;intro e w8 hp
        cases hq:lV C.E r7 with
        | error x=>
         obtain⟨er,i⟩:=x;obtain⟨am,rfl⟩:=dr hp hq;have bA:=ab ((aa H8).but.trans (But2.of am));have hQ:=aa HQ;rw[hq] at hQ;simp only[di] at hQ;have dV:=ab hQ;clear hp am hq hQ HQ;unfold aC;go_wp2_with fail;exact⟨rfl,fi (aa dV) (aa bA) rfl⟩
        | ok x=>
         obtain⟨pp,r8⟩:=x;obtain⟨am,⟨V,rfl,cA,cL⟩,cm⟩:=dt hp hq;have hQ:=aa HQ;rw[hq] at hQ;simp only[aQ] at hQ;have HQ:=ab hQ;have hx:=(aa H8).next (aa HS) am cm;have hs8:=(aa H8).but.size;have vz:=hx.stm.cell (k:=12) rfl;have f12:=hx.stm.fz 12;have vy:=hx.stm.cell (k:=13) rfl;have f13:=hx.stm.fz 13;have vx:=hx.stm.cell (k:=14) rfl;have f14:=hx.stm.fz 14;have vw:=hx.stm.cell (k:=15) rfl;have f15:=hx.stm.fz 15;have vv:=hx.stm.cell (k:=16) rfl;have f16:=hx.stm.fz 16;have iw:=ab (hx.pa (aa HS) cA (cL.mono (by omega)))
         clear hp am hq hQ cA cL cm hx hs8;unfold pv;unfold set5 at iw;go_wp2_with fail;go_end0;exact(aa iw).done (aa HQ)
    ·have q1:((t.k:Int)==1)=false:=bn
     have HQ:=ab (aa dQ (aa oE) (aa kS) (fun h=>k1 h.1))
     clear k1;have tA:=ab (aa HEV _ (aa jm).st);go_wp2_with fail;refine(aa tA).mono ?_;intro e w9 hp;have sI:=ab (iz.from (aa jm).st.but hp)
     cases hq:oc C.E 400 P l with
     | error y=>
      obtain⟨er,i⟩:=y;have fd:=ab ((aa HQ).trans hq);obtain⟨am,rfl⟩:=xY hp hq;have gY:=ab ((aa jm).st.but.trans am);clear hp hq am;unfold aC;go_wp2_with fail;exact⟨rfl,fi (aa fd) (aa gY) rfl⟩
     | ok y=>
      obtain⟨P9,r9⟩:=y;have fd:=ab ((aa HQ).trans hq);obtain⟨am,rfl,hR9,S9,oA⟩:=ym hp hq;have HZ:=ab (And.intro ((aa jm).st.but.trans am) (And.intro hR9 oA));clear hp hq am hR9 oA;go_wp2_with fail;go_end0;exact wP (aa fd) (aa HZ).1 rfl (aa HZ).2.1 (aa HZ).2.2
   ·rw[hD] at mS
    by_cases ku:u.k=1
    ·have qu:((u.k:Int)==1)=true:=bt
     have HQ:=ab (aa aU (aa oE) ⟨hD,ku⟩);have HK1:Hid (t.k=1):=ab (by unfold fL at hD;simp only[uM,decide_eq_true_eq] at hD;exact hD.1)
     clear ku hD;go_wp2_with fail;refine(aa mS _).mono ?_;rintro e w4b ⟨rfl,hb4⟩;have jm:=ab ((aa H4).below hb4);clear hb4;clear tc0b tc1b tc2b uc0b uc1b uc2b;obtain⟨tc0c,tc1c,tc2c⟩:=rS (aa jm).bt;obtain⟨uc0c,uc1c,uc2c⟩:=rS (aa jm).bu;have tA:=ab (aa pG _ (aa jm).st (aa sL (by rw[aa HK1];decide)))
     go_wp2_with fail;refine(aa tA).mono ?_;intro e w9 hp;have sI:=ab (iz.from (aa jm).st.but hp)
     cases hq:dfA C.E P l.tail with
     | error y=>
      obtain⟨er,i⟩:=y;have fd:=ab ((aa HQ).trans hq);obtain⟨am,rfl⟩:=xY hp hq;have gY:=ab ((aa jm).st.but.trans am);clear hp hq am;unfold aC;go_wp2_with fail;exact⟨rfl,fi (aa fd) (aa gY) rfl⟩
     | ok y=>
      obtain⟨P9,r9⟩:=y;have fd:=ab ((aa HQ).trans hq);obtain⟨am,rfl,hR9,S9,oA⟩:=ym hp hq;have HZ:=ab (And.intro ((aa jm).st.but.trans am) (And.intro hR9 oA));clear hp hq am hR9 oA;go_wp2_with fail;go_end0;exact wP (aa fd) (aa HZ).1 rfl (aa HZ).2.1 (aa HZ).2.2
    ·have qu:((u.k:Int)==1)=false:=bn
     have kS:Hid (¬(fL t ⟨#[68,69,70,73,78,69]⟩=true∧u.k=1)):=ab (fun h=>ku h.2)
     clear ku hD;go_wp2_with fail;refine(aa mS _).mono ?_;rintro e w4b ⟨rfl,hb4⟩;have jm:=ab ((aa H4).below hb4);clear hb4;clear tc0b tc1b tc2b uc0b uc1b uc2b;obtain⟨tc0c,tc1c,tc2c⟩:=rS (aa jm).bt;obtain⟨uc0c,uc1c,uc2c⟩:=rS (aa jm).bu
     by_cases k1:t.k=1
     ·have q1:((t.k:Int)==1)=true:=bt
      cases hI:aL u ⟨#[58,61]⟩
      ·have jR:=ab (aa HIU ⟨#[58,61]⟩)
       rw[hI] at jR;have HQ:=ab (aa dQ (aa oE) (aa kS) (fun h=>by have h2:=h.2;rw[hI] at h2;cases h2))
       clear k1 hI;go_wp2_with fail;refine(aa jR _).mono ?_;rintro e w5b ⟨rfl,hb5⟩;have vM:=ab ((aa jm).below hb5);clear hb5;have tA:=ab (aa HEV _ (aa vM).st);go_wp2_with fail;refine(aa tA).mono ?_;intro e w9 hp;have sI:=ab (iz.from (aa vM).st.but hp)
       cases hq:oc C.E 400 P l with
       | error y=>
        obtain⟨er,i⟩:=y;have fd:=ab ((aa HQ).trans hq);obtain⟨am,rfl⟩:=xY hp hq;have gY:=ab ((aa vM).st.but.trans am);clear hp hq am;unfold aC;go_wp2_with fail;exact⟨rfl,fi (aa fd) (aa gY) rfl⟩
       | ok y=>
        obtain⟨P9,r9⟩:=y;have fd:=ab ((aa HQ).trans hq);obtain⟨am,rfl,hR9,S9,oA⟩:=ym hp hq;have HZ:=ab (And.intro ((aa vM).st.but.trans am) (And.intro hR9 oA));clear hp hq am hR9 oA;go_wp2_with fail;go_end0;exact wP (aa fd) (aa HZ).1 rfl (aa HZ).2.1 (aa HZ).2.2
      ·have jR:=ab (aa HIU ⟨#[58,61]⟩)
       rw[hI] at jR;have HQ:=ab (aa bN (aa oE) (aa kS) ⟨k1,hI⟩);clear k1 hI;go_wp2_with fail;refine(aa jR _).mono ?_;rintro e w5b ⟨rfl,hb5⟩;have vM:=ab ((aa jm).below hb5);clear hb5;have c1:=(aa vM).st.stm.cell (k:=1) rfl;have f1:=(aa vM).st.stm.fz 1;have H6:=ab ((aa vM).st.kd (aa HS) 6);have nM:=ab (aa fQ _ l (aa H6).rdr);have ep:=ab (fun t r h=>oP (t:=t) (r:=r) (aa H6).rdr h)
       go_wp2_with fail;clear c1 f1;refine(aa nM).mono ?_;intro e w6 hp
       cases hq:dL C.E l with
       | error x=>
        obtain⟨er,i⟩:=x;obtain⟨am,rfl⟩:=dr hp hq;have bA:=ab ((aa H6).but.trans (But2.of am));have hQ:=aa HQ;rw[hq] at hQ;simp only[di] at hQ;have dV:=ab hQ;clear hp am hq hQ HQ;unfold aC;go_wp2_with fail;exact⟨rfl,fi (aa dV) (aa bA) rfl⟩
       | ok x=>
        obtain⟨t6,r6⟩:=x;obtain⟨am,rfl,cm⟩:=dt hp hq;have iQ:=aa ep _ _ hq;have hQ:=aa HQ;rw[hq] at hQ;simp only[aQ] at hQ;have HQ:=ab hQ;have hx:=(aa H6).next (aa HS) am cm;have cx:=hx.stm.cell (k:=17) rfl;have fx:=hx.stm.fz 17;have H7:=ab (hx.nm (aa HS) iQ);have tW:=ab (aa rz _ r6 (aa H7).rdr);clear hp am hq hQ cm hx ep;go_wp2_with fail;clear cx fx;refine(aa tW).mono ?_;intro e w7 hp
        cases hq:ef C.E ⟨#[58,61]⟩ r6 with
        | error x=>
         obtain⟨er,i⟩:=x;obtain⟨am,rfl⟩:=dr hp hq;have bA:=ab ((aa H7).but.trans (But2.of am));have hQ:=aa HQ;rw[hq] at hQ;simp only[di] at hQ;have dV:=ab hQ;clear hp am hq hQ HQ;unfold aC;go_wp2_with fail;exact⟨rfl,fi (aa dV) (aa bA) rfl⟩
        | ok x=>
         obtain⟨xu7,r7⟩:=x;obtain⟨am,rfl,cm⟩:=dt hp hq;have hQ:=aa HQ;rw[hq] at hQ;simp only[aQ] at hQ;have HQ:=ab hQ;have hx:=(aa H7).next (aa HS) am cm;have H8:=ab hx;have HP8:=ab (aa mj _ r7 hx.rdr ((aa HE).but2 hx.but (aa ru)));clear hp am hq hQ cm hx;go_wp2_with fail;refine(aa HP8).mono ?_;intro e w8 hp
         cases hq:lV C.E r7 with
         | error x=>
          obtain⟨er,i⟩:=x;obtain⟨am,rfl⟩:=dr hp hq;have bA:=ab ((aa H8).but.trans (But2.of am));have hQ:=aa HQ;rw[hq] at hQ;simp only[di] at hQ;have dV:=ab hQ;clear hp am hq hQ HQ;unfold aC;go_wp2_with fail;exact⟨rfl,fi (aa dV) (aa bA) rfl⟩
         | ok x=>
          obtain⟨pp,r8⟩:=x;obtain⟨am,⟨V,rfl,cA,cL⟩,cm⟩:=dt hp hq;have hQ:=aa HQ;rw[hq] at hQ;simp only[aQ] at hQ;have HQ:=ab hQ;have hx:=(aa H8).next (aa HS) am cm;have hs8:=(aa H8).but.size;have vz:=hx.stm.cell (k:=12) rfl;have f12:=hx.stm.fz 12;have vy:=hx.stm.cell (k:=13) rfl;have f13:=hx.stm.fz 13;have vx:=hx.stm.cell (k:=14) rfl;have f14:=hx.stm.fz 14;have vw:=hx.stm.cell (k:=15) rfl;have f15:=hx.stm.fz 15;have vv:=hx.stm.cell (k:=16) rfl;have f16:=hx.stm.fz 16;have iw:=ab (hx.pa (aa HS) cA (cL.mono (by omega)))
          clear hp am hq hQ cA cL cm hx hs8;unfold pv;unfold set5 at iw;go_wp2_with fail;go_end0;exact(aa iw).done (aa HQ)
     ·have q1:((t.k:Int)==1)=false:=bn
      have HQ:=ab (aa dQ (aa oE) (aa kS) (fun h=>k1 h.1))
      clear k1;have tA:=ab (aa HEV _ (aa jm).st);go_wp2_with fail;refine(aa tA).mono ?_;intro e w9 hp;have sI:=ab (iz.from (aa jm).st.but hp)
      cases hq:oc C.E 400 P l with
      | error y=>
       obtain⟨er,i⟩:=y;have fd:=ab ((aa HQ).trans hq);obtain⟨am,rfl⟩:=xY hp hq;have gY:=ab ((aa jm).st.but.trans am);clear hp hq am;unfold aC;go_wp2_with fail;exact⟨rfl,fi (aa fd) (aa gY) rfl⟩
      | ok y=>
       obtain⟨P9,r9⟩:=y;have fd:=ab ((aa HQ).trans hq);obtain⟨am,rfl,hR9,S9,oA⟩:=ym hp hq;have HZ:=ab (And.intro ((aa jm).st.but.trans am) (And.intro hR9 oA));clear hp hq am hR9 oA;go_wp2_with fail;go_end0;exact wP (aa fd) (aa HZ).1 rfl (aa HZ).2.1 (aa HZ).2.2
  ·have mo:=ab (aa HIT ⟨#[58]⟩)
   rw[s58] at mo;have HQ:=ab (aa bO (.inr s58));clear k0 s58 bO aU bN dQ;go_wp2_with fail;refine(aa mo _).mono ?_;rintro e w4 ⟨rfl,hb4⟩;have H4:=ab ((aa H3).below hb4);clear hb4;clear tc0a tc1a tc2a uc0a uc1a uc2a;have c1:=(aa H4).st.stm.cell (k:=1) rfl;have f1:=(aa H4).st.stm.fz 1;have H9:=ab ((aa H4).st.kd (aa HS) 1);go_wp2_with fail;go_end0;exact(aa H9).done (aa HQ)
end Go.Proofs.YtlmnjbipfacniaaGreatDoor
