/- The reader of lines: the signs that stand between; tokens ar -/
import Derived.Test.YtlmnjbipfacniaaGreatDoorSySMs
import Derived.Test.YtlmnjbipfacniaaGreatDoorRdLMs
import Derived.Defers
set_option maxRecDepth 100000
set_option maxHeartbeats 8000000
namespace Go.Proofs.YtlmnjbipfacniaaGreatDoor
open Go.Proofs.Tryz
open Go.RowKit
def btN:Nat→ByteArray→Option Int
 | 0=>fun _=>none
 | n+1=>fun t=>if t=cI ((8+n:Nat):Int) then some ((8+n:Nat):Int) else btN n t
theorem bt_all:btN 6=wn:=by
 funext t
 have e:∀(k:Int) (b:UInt8),cI k=ah b→(t=cI k↔t=ah b):=fun k b h=>by rw[h]
 unfold wn iD;simp only[btN,e _ 38 (show cI ((8+0:Nat):Int)=ah 38 from rfl),e _ 43 (show cI ((8+1:Nat):Int)=ah 43 from rfl),e _ 45 (show cI ((8+2:Nat):Int)=ah 45 from rfl),e _ 42 (show cI ((8+3:Nat):Int)=ah 42 from rfl),e _ 47 (show cI ((8+4:Nat):Int)=ah 47 from rfl),e _ 37 (show cI ((8+5:Nat):Int)=ah 37 from rfl)]
 by_cases h1:t=ah 38
 ·subst h1;decide
 ·by_cases h2:t=ah 43
  ·subst h2;decide
  ·by_cases h3:t=ah 45
   ·subst h3;decide
   ·by_cases h4:t=ah 42
    ·subst h4;decide
    ·by_cases h5:t=ah 47
     ·subst h5;decide
     ·by_cases h6:t=ah 37
      ·subst h6;decide
      ·simp only[h1,h2,h3,h4,h5,h6,if_false,if_true]
theorem G5 (w:World) (hX:gJ w):Calls prog 52 #[] w fun e w'=>e=.returned (.map (some w.heap.size))∧MI w' w.heap.size 6 wn∧Below w.heap.size w w':=by
 have qn:= @run_makeMap prog;have HX:=ab hX;have aF:Hid (Below w.heap.size w (w.alloc (.map #[] 0))):=ab (ba _);have HM0:=ab (MI.new (w:=w));have j8:(0:Nat) < w.heap.size:=da _ _ (hX 8 (by decide) (by decide)).1
 clear hX;go_enter func52,ntmps52;go_wp2_with fail;go_loopw [2] (fun v wr=>∃n:Nat,n≤6∧v=.int .i64 ((8+n:Nat):Int)∧Hid (MI wr w.heap.size n (btN n)∧Below w.heap.size w wr)) (fun v _=>14 - (intOf v).toNat)
 case atStart=>exact⟨0,by decide,rfl,aa HM0,aa aF⟩
 case round=>
  obtain⟨n,hn,rfl,HI⟩:=hrel;rcases cG n 6 with au | gD
  ·obtain⟨K,hK⟩:∃K:Nat,K=8+n:=⟨_,rfl⟩
   have l8:=(aa HX K (by omega) (by omega)).1
   have hsg2:=av (aa HI).2 l8;have HP:Hid ((fun t=>if t=cI (K:Int) then some (K:Int) else btN n t)=btN (n+1)):=ab (by rw[hK];rfl)
   rw[←hK];have tQ:(K:Int)≤13:=by omega
   have hK8:8≤K∧K≤13:=by omega
   have HK:=ab hK;have hss:(cI (K:Int)).size≤maxLen:=by
    have:K=8∨K=9∨K=10∨K=11∨K=12∨K=13:=by omega
    unfold maxLen;rcases this with rfl | rfl | rfl | rfl | rfl | rfl <;> decide
   have HSS:=ab hss;clear l8 hK hss;generalize hsx:cI (K:Int)=sx at *;go_wp2_with (first
    | (refine Ih rfl _ _ _ (.inr rfl) rfl (aa HI).1 (by omega) sx (K:Int) rfl rfl (aa HSS) (by simp[Lit.wf,IntKind.min,IntKind.max,IntKind.signed,IntKind.bits];omega) ?_;intro w6 hM6 hg6;rw[aa HP] at hM6;have HZ:Hid (MI w6 w.heap.size (n+1) (btN (n+1))∧Below w.heap.size w w6):=ab (⟨hM6,(aa HI).2.trans ⟨hg6.os,hg6.tape,hg6.output,hg6.size,fun k hk=>hg6.block k (gL hk (aa HI).2.size) (fun e=>by injection e with e;omega)⟩⟩);clear hM6 hg6)
    | fail)
   have hk:=aa HK;exact⟨⟨n+1,by omega,by rw[hk];go_num,aa HZ⟩,by simp[intOf];omega⟩
  ·obtain rfl:n=6:=by omega
   go_wp2_with fail;go_ret;exact⟨rfl,by rw[←bt_all];exact(aa HI).1,(aa HI).2⟩
open Go.RowKit
theorem M0 (s:ByteArray) (i:Nat):(ct s i).length≤s.size - i:=
 xo (P:=fun i=>(ct s i).length≤s.size - i) (fun i hi=>by rw[Gc hi];exact cU _) (fun i hi hb ih=>by rw[xV hi hb,List.length_cons];omega)
  (fun i hb hc ih=>by rw[yq hb hc,List.length_cons];have:=mv (s:=s) (i:=i+1) (by omega);omega) (fun i hb hc=>by rw[yd hb hc];exact cU _) s.size i (by omega)
theorem yC (s:ByteArray) (i j:Nat):(s.extract i j).size≤s.size:=by rw[ByteArray.size_extract];omega
theorem Kp (s:ByteArray) (i:Nat):(tk s i).2.2.size≤s.size:=by
 unfold tk;split
 ·exact yC s _ _
 ·split
  ·exact yC s _ _
  ·split
   ·split
    ·exact cU _
    ·show (ct s (i+1)).toArray.size≤s.size
     have:=M0 s (i+1);simp only[lJ];omega
   ·split
    ·split
     ·exact cU _
     ·exact yC s _ _
    ·split
     ·exact yC s _ _
     ·split
      ·exact yC s _ _
      ·exact cU _
theorem JX (s:ByteArray) (i:Nat):∀b ∈ (s.extract i (cZ s cR i)).data.toList,48≤b.toNat∧b.toNat≤57:=fun b hb=>by
 obtain⟨m,hm⟩:=List.mem_iff_getElem?.1 hb;have au:=(mG.1 hm).1;rw[ByteArray.data_extract,Array.length_toList,Array.size_extract] at au;rw[ByteArray.data_extract,sa,Array.getElem?_extract,af (by omega)] at hm
 have hd:=ME (s:=s) (p:=cR) (i:=i) (i+m) (by omega) (by omega)
 have hb2:aj s (i+m)=b.toNat:=by
  unfold aj;rw[yF,sa,hm];rfl
 rw[hb2] at hd;exact CS hd
theorem tk_TkS {s:ByteArray} (hs:s.size≤2000) {i:Nat} (hi:i < s.size):uI ⟨(tk s i).1,(tk s i).2.2,i⟩:=by
 refine⟨(yv s i hi).2.2.2,bv (Kp s i) hs,(by show i≤2000;omega),fun h2=> ?_⟩
 have h2:(tk s i).1=2:=h2;show (tk s i).2.2.size≠0∧∀b ∈ (tk s i).2.2.data.toList,48≤b.toNat∧b.toNat≤57;unfold tk at h2 ⊢;split at h2
 ·cases h2
 ·split at h2
  ·rename_i hl hd
   rw[ac hl,af hd];refine⟨?_,JX s i⟩;show (s.extract i (cZ s cR i)).size≠0;have h1:=mX s cR (i+1) (by omega)
   rw[ByteArray.size_extract,nT hi hd];omega
  ·split at h2
   ·split at h2 <;> cases h2
   ·split at h2
    ·split at h2 <;> cases h2
    ·split at h2
     ·cases h2
     ·split at h2 <;> cases h2
theorem D7 (s:ByteArray):∀x ∈ (gx s).1,uI x:=by
 unfold gx;split
 ·intro x hx;cases hx
 ·rename_i hs
  exact B1 (P:=fun i l=>(∀x ∈ l,uI x)→∀x ∈ (ln s i l).1,uI x) (fun l h=>by rw[B2];exact h) (fun i l hi hb ih h=>by rw[D4 hi hb];exact ih h) (fun i l hi hb hk h=>by rw[FZ hi hb hk];intro x hx;cases hx)
   (fun i l hi hb hk ih h=>by
    rw[B0 hi hb hk];refine ih fun x hx=> ?_
    rcases uQ.1 hx with q | q
    ·exact h x q
    ·rw[jv] at q
     subst q;exact tk_TkS (by omega) hi) s.size 0 [] (cU _) (by omega) (fun x hx=>by cases hx)
open Go.RowKit
theorem de:(prog.info? 30).map (·.size)=some 24:=by kernel_rfl
theorem fh:(prog.info? 36).map (·.size)=some 2:=by kernel_rfl
theorem GO (g:Nat) (er:Int) (i:Nat) (old:Array Value) (older:List PanicEntry) (w:World) (hg:w.heap[g]? =some (.cells old 36 (0,0))) (ho:old.size=2):
  CallsD prog 51 #[.pointer (some ⟨g,0,none⟩)] (.panicking ({v:=.iface 36 (cY er i),recovered:=false}::older)) w fun e u' w'=>
   e=.returned (.tuple #[])∧u'=.panicking ({v:=.iface 36 (cY er i),recovered:=true}::older)∧w'=w.setRow g #[.int .i64 er,.int .i64 (i:Int)]:=by
 refine callsD_of_wpS func51 rfl fun c₀ cs hu=> ?_
 apply wpS_seq;apply wpS_region;simp[wpOpsS,go_sem,recoverD,hu,ntmps51,Exit.thenS];refine wpS_of_wp ?_;rw[show (#[Value.pointer (some ⟨g,0,none⟩)]++((Array.replicate 6 undef).setIfInBounds 1 (Value.iface 36 (cY er i))).setIfInBounds 0 (Value.iface 36 (cY er i)):Array Value)= #[.pointer (some ⟨g,0,none⟩),.iface 36 (cY er i),.iface 36 (cY er i),undef,undef,undef,undef] from rfl];have HG:=ab hg;clear hg;have hta:∀(v:Value) (x:TypeId) (w:World),(Instr.typeAssert (.iface 36 v) x 36 false).run prog w=.ok v w:=fun v x w=>by
  simp[Instr.typeAssert,run_underlying underlying36,go_sem,Result.andThen]
 unfold cY;go_wp2_with (first
  | (refine bh rfl 36 _ _ rfl g #[.int .i64 er,.int .i64 (i:Int)] rfl rfl 36 old (aa HG) fh ho (by simp[Value.oneCell']) ?_)
  | fail)
 exact⟨rfl,_,rfl,_,results_none rfl _ _ _,rfl,rfl,rfl⟩
theorem y8 (p:Addr) (w:World):
  CallsD prog 51 #[.pointer (some p)] .returning w fun e u' w'=>e=.returned (.tuple #[])∧u'=.returning∧w'=w:=by
 refine callsD_of_wpS func51 rfl fun c₀ cs hu=> ?_
 apply wpS_seq;apply wpS_region;simp[wpOpsS,go_sem,recoverD,hu,ntmps51,Exit.thenS];refine wpS_of_wp ?_;rw[show (#[Value.pointer (some p)]++((Array.replicate 6 undef).setIfInBounds 1 Value.nilIface).setIfInBounds 0 Value.nilIface:Array Value)= #[.pointer (some p),.nilIface,.nilIface,undef,undef,undef,undef] from rfl];go_wp2_with fail;exact⟨rfl,_,by cases c₀;simp_all,_,results_none rfl _ _ _,rfl,rfl,rfl⟩
theorem xR (tmps:Array Value) (W:World) (gp gf:Nat) (cs fs:Array Value) (h4:tmps.getD 4 undef=.pointer (some ⟨gp,0,none⟩)) (h5:tmps.getD 5 undef=.pointer (some ⟨gf,0,none⟩)) (hp:W.heap[gp]? =some (.cells cs 30 (0,0))) (hf:W.heap[gf]? =some (.cells fs 36 (0,0))) (jg:cs.size=24) (hfs:fs.size=2):
  (results Tryz.f23 tmps).run prog W=.ok (.tuple #[.agg cs,.agg fs]) W:=by
 have h4':tmps[4]?.getD undef=.pointer (some ⟨gp,0,none⟩):=by simpa using h4
 have h5':tmps[5]?.getD undef=.pointer (some ⟨gf,0,none⟩):=by simpa using h5
 have e1:=uR (P:=prog) W gp 30 30 cs (0,0) _ hp underlying30 rfl (by rw[jg];exact de)
 have e2:=uR (P:=prog) W gf 36 36 fs (0,0) _ hf underlying36 rfl (by rw[hfs];exact fh)
 simp[results,Tryz.results23,h4',h5',asAddr,e1,e2]
structure SLies (B:Nat) (w:World) (S:SV):Prop where
 txt:S.lab.size≤2000∧S.nm.size≤2000∧S.en.size≤2000∧S.al.size≤2000∧S.ye.size≤2000∧S.no.size≤2000
 tg:bf B w S.tg
 va:bf B w S.va
 pa:bf B w S.pa
 ps:lD B w S.ps
 ls:lD B w S.ls
theorem SLies.step {B:Nat} {w w':World} {S:SV} (h:SLies B w S) (hs:w.heap.size≤w'.heap.size) (hb:∀i,B≤i→i < w.heap.size→w'.heap[i]? =w.heap[i]?):SLies B w' S:=⟨h.txt,h.tg.step hs hb,h.va.step hs hb,h.pa.step hs hb,h.ps.step hs hb,h.ls.step hs hb⟩
theorem SLies.below {B:Nat} {w w':World} {S:SV} (h:SLies B w S) (hb:Below w.heap.size w w'):SLies B w' S:=h.step hb.size fun i _ h2=>hb.block i h2
theorem SLies.setRow {B g:Nat} {w:World} {S:SV} (h:SLies B w S) (hg:g < B) (cs:Array Value):SLies B (w.setRow g cs) S:=h.step (by simp) fun i h1 _=>eZ w g i cs (by omega)
theorem SLies.mono {B C:Nat} {w:World} {S:SV} (h:SLies C w S) (hc:B≤C):SLies B w S:=⟨h.txt,h.tg.mono hc,h.va.mono hc,h.pa.mono hc,fun X hX=>h.ps X fun i h1 h2=>hX i (by omega) h2,fun X hX=>h.ls X fun i h1 h2=>hX i (by omega) h2⟩
theorem SLies.here {B:Nat} {w:World} {S:SV} (h:SLies B w S):S.In w:=by
 obtain⟨a,b,c,d,e,f⟩:=h.txt;exact⟨⟨by unfold maxLen;omega,by unfold maxLen;omega,by unfold maxLen;omega,by unfold maxLen;omega,by unfold maxLen;omega,by unfold maxLen;omega⟩,h.tg.here,h.va.here,h.pa.here,h.ps w fun _ _ _=>rfl,h.ls w fun _ _ _=>rfl⟩
theorem SV.cells_one (S:SV):S.cells.all (·.oneCell')=true:=by
 unfold SV.cells NL.v;simp[Value.oneCell']
def Cd (s:ByteArray) (l:List Tk) (w:World) (e:Ending) (w':World):Prop:=
 Below w.heap.size w w'∧(∀P m,qQ s l=.ok (P,m)→∃S:SV,e=.returned (.tuple #[S.v,cY 0 0])∧S.can=P∧SLies w.heap.size w' S)∧
  (∀er a,qQ s l=.error (er,a)→∃C:Array Value,e=.returned (.tuple #[.agg C,cY er a])∧C.size=24∧C.all (·.oneCell')=true)
def raB (s:ByteArray) (S:SV) (l:List Tk):Sy SV:=aR (el s.size 400 S l) fun S q=>aR (fZ s.size S q) fun S m=>if m.length=0 then .ok (S,m) else .error (2,(ak s.size 0 m).a)
theorem xk (w:World):PT.nul.In w:=⟨⟨by decide,by decide⟩,by decide,⟨by decide,by decide⟩,by decide,by decide,by decide,fun h=>absurd h (by decide),fun i=>i.elim0⟩
theorem DX (B:Nat) (w:World):lD B w (fA []):=fun X _=>⟨aw _,cU _,fun h=>absurd h (by decide),fun i t h=>by cases h⟩
theorem vZ:PT.nul.can=PT.nul:=by
 rw[PT.can_eq];show aP 0 ByteArray.empty 0 ByteArray.empty []=PT.nul;unfold aP PT.nul
 congr 1
 funext i
 exact i.elim0
theorem LY:cc.can=cc:=by
 show SV.mk ByteArray.empty 0 PT.nul.can PT.nul.can PT.nul.can ByteArray.empty ByteArray.empty (fA []) (fA []) ByteArray.empty ByteArray.empty ByteArray.empty=cc;rw[vZ];rfl
theorem zSV_in {w:World} {sb:Nat} (B:Nat) (h:w.heap[sb]? =some (.cells cc.cells 30 (0,0))):StIn B sb w cc cc:=
 ⟨h,LY,by decide,fun X _=>xk X,fun X _=>xk X,fun X _=>xk X,DX B w,DX B w⟩
theorem StR.lab {C:SyC} {o B sb:Nat} {w W:World} {l:List Tk} {S P:SV} (h:StR C o B sb w W l S P) (hS:SyS C B sb) {t:ByteArray} (ht:t.size≤2000):StR C o B sb w (W.setCell ⟨sb,0,none⟩ (.string t)) l {S with lab:=t} {P with lab:=t}:=
 ⟨h.but.set _ _,h.rdr.stm hS,h.stm.put hS.s rfl (by rw[←h.stm.can];rfl) ⟨ht,h.stm.txt.2⟩ rfl rfl rfl rfl rfl⟩
open Go.RowKit
structure SyW (w:World):Prop where
 sh:dA w
 shx:gJ w
 sh0:w.cell? ⟨0,1,none⟩=some (.int .i64 0)
 er:∃te pe,w.cell? ⟨9,0,none⟩=some (.iface te pe)
theorem SyW.later {w w':World} (h:SyW w) (hb:Below w.heap.size w w'):SyW w':=⟨h.sh.later hb,h.shx.later hb,av hb h.sh0,by obtain⟨te,pe,q⟩:=h.er;exact⟨te,pe,av hb q⟩⟩
theorem SyW.l1 {w:World} (h:SyW w):(1:Nat) < w.heap.size:=h.sh.lt
theorem SyW.l2 {w:World} (h:SyW w):(0:Nat) < w.heap.size:=da _ _ h.sh0
theorem SyW.l3 {w:World} (h:SyW w):(9:Nat) < w.heap.size:=by obtain⟨te,pe,q⟩:=h.er;exact da _ _ q
structure SyTk (w:World) (v:Value) (l:List Tk) (g:Nat):Prop where
 row:∃xa cap off,v=.slice xa l.length cap∧l.length≤cap∧cap≤maxLen∧(l≠[]→xa=some ⟨g,off,none⟩)∧wo w g off l
 lt:g < w.heap.size
 sm:∀t ∈ l,uI t
structure RaB (w:World) (B:Nat) (W:World):Prop where
 bel:Below B w W
 sbox:BoxS B W
 fbox:W.heap[B+1]? =some (.cells #[.int .i64 0,.int .i64 0] 36 (0,0))
theorem RaB.but2 {w W W':World} {B z:Nat} (h:RaB w B W) (hb:But2 z B W W') (hz:B+1 < z):RaB w B W':=by
 have hs:=(bC.1 h.fbox).1;exact⟨⟨hb.os.trans h.bel.os,hb.tape.trans h.bel.tape,hb.output.trans h.bel.output,bv h.bel.size hb.size,fun k hk=>(hb.block k (by omega) (by omega) (by omega)).trans (h.bel.block k hk)⟩,hb.box (by omega) h.sbox,(hb.block (B+1) hs (by omega) (by omega)).trans h.fbox⟩
theorem RaB.below {w W W':World} {B:Nat} (h:RaB w B W) (hb:Below W.heap.size W W'):RaB w B W':=by
 obtain⟨C,h1,h2,h3⟩:=h.sbox;exact⟨h.bel.trans (hb.mono (by have:=(bC.1 h1).1;omega)),⟨C,an h1 hb,h2,h3⟩,an h.fbox hb⟩
theorem KL {w w0 w1:World} {B g:Nat} {s:ByteArray} {l:List Tk} {xa:Option Addr} {cap off:Nat} (hB:B=w.heap.size) (h0:Below B w w0∧w0.heap[B+1]? =some (.cells #[.int .i64 0,.int .i64 0] 36 (0,0))∧w0.heap[B]? =some (.cells cc.cells 30 (0,0))) (ay:w0.heap.size=B+1+1)
  (hM:MI w1 w0.heap.size 6 wn) (hb1:Below w0.heap.size w0 w1) (hW:SyW w) (hs:s.size≤2000) (hk:(l.length≤cap∧cap≤maxLen∧(l≠[]→xa=some ⟨g,off,none⟩)∧wo w g off l)∧g < w.heap.size∧∀t ∈ l,uI t)
  {w2:World} {z:Nat} {C:SyC} (hz:z=w1.heap.size) (fm:w2=w1.alloc (.cells #[.slice xa l.length cap,.int .i64 (s.size:Int),.int .i64 0,.map (some w0.heap.size)] 105)) (hC:C=⟨z,s.size,g,w0.heap.size,6⟩):
  SyS C (z+1) B∧SyT B∧StR C 0 (z+1) B w2 w2 l cc cc∧SyEnv C w2∧RaB w B w2∧B+1 < z∧z+1≤w2.heap.size:=by
 subst hC hz;obtain⟨bd,rf,lP⟩:=h0;obtain⟨⟨k1,k2,k3,k4⟩,hg,jf⟩:=hk;have hm:=hM.lt;have hb2:Below w1.heap.size w1 w2:=by rw[fm];exact ba _
 have e2:w2.heap.size=w1.heap.size+1:=by rw[fm,dS]
 have sp:w2.heap[B]? =some (.cells cc.cells 30 (0,0)):=an (an lP hb1) hb2;have hf2:w2.heap[B+1]? =some (.cells #[.int .i64 0,.int .i64 0] 36 (0,0)):=an (an rf hb1) hb2;have l1:=hW.l1;have l2:=hW.l2;have l3:=hW.l3;have bz:Below B w w2:=(bd.trans (hb1.mono (by omega))).trans (hb2.mono (by omega))
 have kM:=hW.later (hB▸bz);have hR:Syr ⟨w1.heap.size,s.size,g,w0.heap.size,6⟩ w2 l 0:=by
  refine⟨⟨xa,cap,off,by rw[fm];exact ax rfl,k1,k2,k3,fun i t ht=> ?_⟩,hM.below (hb2.block _ hm),by show g < w2.heap.size;omega,by show g≠w1.heap.size;omega,by show w0.heap.size≠w1.heap.size;omega,jf,hs⟩
  have q:∀o,w2.cell? ⟨g,o,none⟩=w.cell? ⟨g,o,none⟩:=fun o=>by unfold World.cell?;rw[bz.block g (by omega)]
  rw[q,q,q];exact k4 i t ht
 refine⟨⟨by show w1.heap.size < _;omega,by omega,by show B≠w1.heap.size;omega,by show B≠g;omega,by show B≠w0.heap.size;omega⟩,⟨by omega,by omega,by omega⟩,⟨But2.refl _ _ _,hR,zSV_in _ sp⟩,⟨kM.sh,kM.shx,kM.sh0,kM.er,by show w1.heap.size≠_;omega,by show w1.heap.size≠_;omega,by show w1.heap.size≠_;omega⟩,⟨bz,⟨_,sp,rfl,SV.cells_one cc⟩,hf2⟩,by omega,by omega⟩
theorem GR (s:ByteArray) (h:0 < s.size) (W:World):(Instr.index 9 (.string s) (.int .i64 0)).run prog W=.ok (.int .u8 (aj s 0:Int)) W:=by
 have e:aj s 0=(s[0]).toNat:=by
  unfold aj;have hl:0 < s.data.toList.length:=by simpa using h
  rw[yF,gT hl];rfl
 rw[e];simp[Instr.index,asIntOf,run_underlying underlying9,go_sem,h]
structure RaS (C:SyC) (z B:Nat) (w w2 W:World) (l:List Tk) (S P:SV):Prop where
 st:StR C 0 (z+1) B w2 W l S P
 bx:RaB w B W
def RaQ (C:SyC) (z B:Nat) (w w2:World) (R:Sy SV) (e:Ending) (W':World):Prop:=match R with | .ok x=>e=.returned (.tuple #[])∧∃S',RaS C z B w w2 W' x.2 S' x.1 | .error x=>e=aC x.1 x.2
theorem RaS.post {C:SyC} {z B:Nat} {w w2 W W':World} {l:List Tk} {S P:SV} {R:Sy SV} {e:Ending} (h:RaS C z B w w2 W l S P) (hz:C.z=z) (au:B+1 < z) (hp:iz C 0 (z+1) B W R e W'):RaB w B W'∧But2 C.z B w2 W'∧RaQ C z B w w2 R e W':=by
 have hb:=h.bx.but2 (z:=C.z) hp.1 (by omega)
 refine⟨hb,h.st.but.trans hp.1, ?_⟩
 cases R with
 | error x=>exact hp.2
 | ok x=>
  obtain⟨h1,h2,S',h3⟩:=hp.2;exact⟨h1,S',⟨h.st.but.trans hp.1,h2,h3⟩,hb⟩
theorem G3 (s:ByteArray) (l:List Tk) (v:Value) (g:Nat) (w:World) (hs:s.size≤2000) (hW:SyW w) (hT:SyTk w v l g):Calls prog 23 #[.string s,v] w fun e w'=>Cd s l w e w':=by
 have hmf:∀(fn:Fn) (first cap:Array Value) (w:World),(Instr.makeFunc fn first cap).run prog w=.ok (.func fn first cap) w:=fun _ _ _ _=>rfl
 obtain⟨⟨xa,cap,off,rfl,dF,jQ,ow,mb⟩,hg,jf⟩:=hT;obtain⟨B,hB⟩:∃B,B=w.heap.size:=⟨_,rfl⟩;obtain⟨w0,fV⟩:∃w0,w0=(w.alloc (.cells cc.cells 30)).alloc (.cells #[.int .i64 0,.int .i64 0] 36):=⟨_,rfl⟩;have ay:w0.heap.size=B+1+1:=by rw[fV,hB];simp
 have bd:Below B w w0:=by rw[fV,hB];exact(ba _).alloc (by simp) _
 have rf:w0.heap[B+1]? =some (.cells #[.int .i64 0,.int .i64 0] 36 (0,0)):=by rw[fV,hB];exact ax (by simp)
 have lP:w0.heap[B]? =some (.cells cc.cells 30 (0,0)):=by rw[fV,hB];exact ci (by simp) (ax rfl)
 have sE:=ab (G5 w0 ((hW.later (hB▸bd)).shx));have H0:=ab (And.intro bd (And.intro rf lP));obtain⟨RR,bD⟩:∃RR,RR=qQ s l:=⟨_,rfl⟩;have kP:Hid (∀e w',(Below B w w'∧(∀P m,RR=.ok (P,m)→∃S:SV,e=.returned (.tuple #[S.v,cY 0 0])∧S.can=P∧SLies B w' S)∧(∀er a,RR=.error (er,a)→∃C:Array Value,e=.returned (.tuple #[.agg C,cY er a])∧C.size=24∧C.all (·.oneCell')=true))→Cd s l w e w'):=ab (fun e w' h=>by rw[hB,bD] at h;exact h)
 have HQ:Hid (RR=aR (th s s.size l) fun t r=>raB s {cc with lab:=t} r):=ab (bD)
 have HWD:Hid ((w.alloc (.cells cc.cells 30)).alloc (.cells #[.int .i64 0,.int .i64 0] 36)=w0):=ab (fV.symm);have kO:=ab ay;have HEV:=ab (fun (W:World) (hb:Below B w W)=>hW.later (hB▸hb))
 have gG:=ab (And.intro (And.intro dF (And.intro jQ (And.intro ow mb))) (And.intro hg jf));have HWW:=ab hW;have HB:=ab hB;clear bd rf lP fV bD hW ow mb jf ay hB
 -- what is thrown is caught
 have key:∀(er:Int) (a:Nat) (W:World),RR=.error (er,a)→RaB w B W→∀tmps:Array Value,tmps.getD 4 undef=.pointer (some ⟨B,0,none⟩)→tmps.getD 5 undef=.pointer (some ⟨B+1,0,none⟩)→
   bodyPostD prog Tryz.f23 (fun e w'=>Cd s l w e w')
    (Exit.panic [{v:=.iface 36 (cY er a),recovered:=false}]) {tmps:=tmps,defers:=[{target:=Target.fn (Fn.func 51) #[.pointer (some ⟨B+1,0,none⟩)],args:= #[]}]} W:=by
  intro er a W mf hR tmps ht2 ht3;obtain⟨C,h1,h2,h3⟩:=hR.sbox;refine leaves_cons (f:=51) (args:= #[.pointer (some ⟨B+1,0,none⟩)]) (by simp) (by simp[go_sem]) ?_
  refine(GO (B+1) er a _ [] _ hR.fbox rfl).mono ?_;rintro e u' w'' ⟨rfl,rfl,rfl⟩;have l9:B≠B+1:=by omega
  refine⟨_,xR tmps _ B (B+1) C #[.int .i64 er,.int .i64 (a:Int)] ht2 ht3 ((eZ W _ _ _ l9).trans h1) (bW _ _ _ _ _ _ hR.fbox) h2 rfl,aa kP _ _ ⟨ed hR.bel _ (by omega) _,fun p j h=> ?_,fun er' a' h=> ?_⟩⟩
  ·rw[mf] at h;cases h
  ·rw[mf] at h
   injection h with h;injection h with h1 h2
   subst h1 h2;exact⟨C,rfl,h2,h3⟩
 have mJ:=ab key;clear key;obtain⟨w0',hw0'⟩:∃w0',w0'=w0:=⟨w0,rfl⟩;clear hw0' w0';go_enter_defers func23,ntmps23;go_wp2_with fail;rw[show ((w.alloc (.cells Z24 30)).alloc (.cells #[.int .i64 0,.int .i64 0] 36))=w0 from aa HWD];rw[show w.heap.size=B from (aa HB).symm];refine(aa sE).mono ?_;rintro e w1 ⟨rfl,hM1,hb1⟩;obtain⟨z,hz⟩:∃z,z=w1.heap.size:=⟨_,rfl⟩;obtain⟨w2,fm⟩:∃w2,w2=w1.alloc (.cells #[.slice xa l.length cap,.int .i64 (s.size:Int),.int .i64 0,.map (some w0.heap.size)] 105):=⟨_,rfl⟩;obtain⟨C,hC⟩:∃C:SyC,C=⟨z,s.size,g,w0.heap.size,6⟩:=⟨_,rfl⟩;obtain⟨x1,x2,x3,x4,x5,x6,x7⟩:=KL (off:=off) (aa HB) (aa H0) (aa kO) hM1 hb1 (aa HWW) hs (aa gG) hz fm hC;have HX:=ab (And.intro x1 (And.intro x2 (And.intro x4 (And.intro x6 x7))));have ij:Hid (C.z=z):=ab (by rw[hC])
 have H2:Hid (RaS C z B w w2 w2 l cc cc):=ab (⟨x3,x5⟩);have hCE:s.size=C.E:=by rw[hC]
 have hQ:=aa HQ;rw[hCE] at hQ;have hraB:∀S l,raB s S l=aR (el C.E 400 S l) fun S q=>aR (fZ C.E S q) fun S m=>if m.length=0 then .ok (S,m) else .error (2,(ak C.E 0 m).a):=fun S l=>by unfold raB;rw[hCE]
 have qy:=ab (And.intro hQ hraB);have fb:=ab (And.intro fm hz);clear x1 x2 x3 x4 x5 x6 x7 fm hM1 hb1 hC hQ hraB HQ hz;clear H0 sE HWD gG kO hCE
 by_cases h0:s.size=0
 ·have bO:Hid (RR=raB s cc l):=ab (by
   rw[(aa qy).1];unfold th;rw[ac (fun q=>q.1 h0),aQ];rfl)
  have bO:=ab ((aa bO).trans ((aa qy).2 _ _));have he:s.toList.isEmpty=true:=by rw[lW,xC];exact kG (by simpa using h0)
  clear h0 qy;go_wp2_with fail;rw[show w1.alloc (.cells #[.slice xa l.length cap,.int .i64 (s.size:Int),.int .i64 0,.map (some w0.heap.size)] 105)=w2 from (aa fb).1.symm];rw[show w1.heap.size=z from (aa fb).2.symm];clear fb;have HA:Hid (RR=aR (el C.E 400 cc l) fun S q=>aR (fZ C.E S q) fun S m=>if m.length=0 then .ok (S,m) else .error (2,(ak C.E 0 m).a)):=ab (aa bO)
  have HD:Hid (Calls prog 54 #[.pointer (some ⟨z,0,none⟩),.pointer (some ⟨B,0,none⟩)] w2 fun e w'=>iz C 0 (z+1) B w2 (el C.E 400 cc l) e w'):=ab (by
   have q:=zn (B:=z+1) (S:=_) w2 (aa HX).1 (aa HX).2.1 (aa H2).st.rdr ((aa HX).2.2.1.but2 (aa H2).st.but (aa HX).2.1) (aa H2).st.stm (bv (aa HX).2.2.2.2 (aa H2).st.but.size) rfl rfl rfl rfl;rw[aa ij] at q;exact q)
  clear bO;refine(aa HD).mono ?_;intro e w5 hp;obtain⟨qV,wC,iq⟩:=(aa H2).post (aa ij) (aa HX).2.2.2.1 hp;clear hp HD
  cases eR:el C.E 400 cc l with
  | error x=>
   obtain⟨er,i⟩:=x;rw[eR] at iq;have iq:e=aC er i:=iq;subst iq;have hE:=aa HA;rw[eR,di] at hE;clear eR;unfold aC;go_wp2_with fail;exact aa mJ er i w5 hE qV _ rfl rfl
  | ok x=>
   obtain⟨P5,l5⟩:=x;rw[eR] at iq;obtain⟨he5,S5,h5⟩:=iq;subst he5;have H5:=ab h5;have hE:=aa HA;rw[eR,aQ] at hE;have nQ:=ab hE;have HY:Hid (Calls prog 55 #[.pointer (some ⟨z,0,none⟩),.pointer (some ⟨B,0,none⟩)] w5 fun e w'=>iz C 0 (z+1) B w5 (fZ C.E P5 l5) e w'):=ab (by
    have q:=y7 (B:=z+1) w5 (aa HX).1 h5.st.rdr h5.st.stm;rw[aa ij] at q;exact q)
   clear eR h5 qV wC hE HA;go_wp2_with fail;refine(aa HY).mono ?_;intro e w6 hp;obtain⟨nn,wB,dN⟩:=(aa H5).post (aa ij) (aa HX).2.2.2.1 hp;clear hp HY
   cases hr6:fZ C.E P5 l5 with
   | error x=>
    obtain⟨er,i⟩:=x;rw[hr6] at dN;have dN:e=aC er i:=dN;subst dN;have hE:=aa nQ;rw[hr6,di] at hE;clear hr6;unfold aC;go_wp2_with fail;exact aa mJ er i w6 hE nn _ rfl rfl
   | ok x=>
    obtain⟨P6,l6⟩:=x;rw[hr6] at dN;obtain⟨he6,S6,h6⟩:=dN;subst he6;have hE:=aa nQ;rw[hr6,aQ] at hE;have H6:=ab h6;have mp:=ab hE;obtain⟨si,cap6,off6,nr,k61,k62, -, -⟩:=h6.st.rdr.blk;rw[aa ij] at nr;have c0:w6.cell? ⟨z,0,none⟩=some (.slice si l6.length cap6):=cr nr;have fc:Hid (Calls prog 56 #[.pointer (some ⟨z,0,none⟩)] w6 fun e w'=>e=aC 2 (ak C.E 0 l6).a∧Below w6.heap.size w6 w'):=ab (by
     have q:=rJ w6 h6.st.rdr;rw[aa ij] at q;exact q)
    have li:=ab nn;clear hr6 h6 nr wB hE nQ H5 nn k61 k62
    by_cases hl6:l6.length=0
    ·have hE:=aa mp
     rw[af hl6] at hE;have HE:=ab hE;have q6:¬(0:Int) < (l6.length:Int):=by omega
     clear hl6 hE;obtain⟨Cs,jC⟩:∃Cs,Cs=S6.cells:=⟨_,rfl⟩;have qZ:Cs.size=24:=by rw[jC];rfl
     have qs:Cs.all (·.oneCell')=true:=by rw[jC];exact SV.cells_one S6
     have hb6:w6.heap[B]? =some (.cells Cs 30 (0,0)):=by rw[jC];exact(aa H6).st.stm.box
     have qw:Hid (SLies (z+1) w6 S6):=ab (⟨(aa H6).st.stm.txt,(aa H6).st.stm.tg,(aa H6).st.stm.va,(aa H6).st.stm.pa,(aa H6).st.stm.ps,(aa H6).st.stm.ls⟩);have fq:=ab hb6;have H16:=ab qs;have nJ:=ab qZ;have jk:=ab (bW w6 B Cs Cs _ _ hb6);have mT:=ab ((eZ w6 B (B+1) Cs (by omega)).trans (aa li).fbox)
     have rC:=ab (bW (w6.setRow B Cs) (B+1) _ #[.int .i64 0,.int .i64 0] _ _ (aa mT));have oH:=ab ((eZ (w6.setRow B Cs) (B+1) B #[.int .i64 0,.int .i64 0] (by omega)).trans (aa jk))
     have gn:Hid (S6.v=.agg Cs):=ab (by rw[jC];rfl)
     have ej:Hid (S6.can=P6):=ab ((aa H6).st.stm.can);clear qZ qs hb6 jC;go_wp2_with (first
      | (refine io rfl 30 _ rfl B rfl 30 Cs (0,0) _ (aa fq) underlying30 rfl (de.trans (by rw[aa nJ])) ?_)
      | (refine bh rfl 30 _ _ rfl B Cs rfl rfl 30 Cs (aa fq) (de.trans (by rw[aa nJ])) rfl (aa H16) ?_)
      | (refine bh rfl 36 _ _ rfl (B+1) #[.int .i64 0,.int .i64 0] rfl rfl 36 #[.int .i64 0,.int .i64 0] (by with_reducible exact aa mT) fh rfl (by simp[Value.oneCell']) ?_)
      | fail)
     (try go_frame)
     refine leaves_cons (f:=51) (args:= #[.pointer (some ⟨B+1,0,none⟩)]) (by simp) (by simp[go_sem]) ?_
     refine(y8 _ _).mono ?_;rintro e u' w'' ⟨rfl,rfl,rfl⟩;refine⟨_,xR _ _ B (B+1) Cs #[.int .i64 0,.int .i64 0] rfl rfl (aa oH) (aa rC) (aa nJ) rfl,aa kP _ _ ⟨ed (ed (aa li).bel B (aw _) Cs) (B+1) (by omega) _,fun p' j' h=> ?_,fun er' a' h=> ?_⟩⟩
     ·rw[aa HE] at h
      injection h with h;injection h with h1 h2
      subst h1;exact⟨S6,by rw[aa gn];rfl,aa ej,(((aa qw).setRow (g:=B) (by have:=(aa HX).2.2.2.1;omega) Cs).setRow (g:=B+1) (by have:=(aa HX).2.2.2.1;omega) _).mono (by have:=(aa HX).2.2.2.1;omega)⟩
     ·rw[aa HE] at h;cases h
    ·have hE:=aa mp
     rw[ac hl6] at hE;have HE:=ab hE;have q6:(0:Int) < (l6.length:Int):=by omega
     clear hl6 hE;go_wp2_with fail;refine(aa fc).mono ?_;rintro e w7 ⟨rfl,hb7⟩;unfold aC;go_wp2_with fail;exact aa mJ 2 _ w7 (aa HE) ((aa li).below hb7) _ rfl rfl
 ·have jA:=GR s (by omega)
  have he:s.toList.isEmpty=false:=by
   rw[lW,←Bool.not_eq_true,xC];intro q;exact h0 (by have:=aD List.length q;simpa using this)
  have iv:Hid (th s C.E l=if aj s 0≠32∧aj s 0≠58 then dL C.E l else .ok (ByteArray.empty,l)):=ab (by
   unfold th
   by_cases q:aj s 0≠32∧aj s 0≠58
   ·rw[af ⟨h0,q⟩,af q]
   ·rw[ac (fun z=>q z.2),ac q])
  generalize aj s 0=b at *;clear h0
  by_cases iU:b=32
  ·have bO:Hid (RR=raB s cc l):=ab (by rw[(aa qy).1,aa iv,ac (fun q=>q.1 iU),aQ];rfl)
   have bO:=ab ((aa bO).trans ((aa qy).2 _ _));have q32:((b:Int) !=32)=false:=by simp;omega
   clear iU qy iv;go_wp2_with fail;rw[show w1.alloc (.cells #[.slice xa l.length cap,.int .i64 (s.size:Int),.int .i64 0,.map (some w0.heap.size)] 105)=w2 from (aa fb).1.symm];rw[show w1.heap.size=z from (aa fb).2.symm];clear fb;have HA:Hid (RR=aR (el C.E 400 cc l) fun S q=>aR (fZ C.E S q) fun S m=>if m.length=0 then .ok (S,m) else .error (2,(ak C.E 0 m).a)):=ab (aa bO)
   have HD:Hid (Calls prog 54 #[.pointer (some ⟨z,0,none⟩),.pointer (some ⟨B,0,none⟩)] w2 fun e w'=>iz C 0 (z+1) B w2 (el C.E 400 cc l) e w'):=ab (by
    have q:=zn (B:=z+1) (S:=_) w2 (aa HX).1 (aa HX).2.1 (aa H2).st.rdr ((aa HX).2.2.1.but2 (aa H2).st.but (aa HX).2.1) (aa H2).st.stm (bv (aa HX).2.2.2.2 (aa H2).st.but.size) rfl rfl rfl rfl;rw[aa ij] at q;exact q)
   clear bO;refine(aa HD).mono ?_;intro e w5 hp;obtain⟨qV,wC,iq⟩:=(aa H2).post (aa ij) (aa HX).2.2.2.1 hp;clear hp HD
   cases eR:el C.E 400 cc l with
   | error x=>
    obtain⟨er,i⟩:=x;rw[eR] at iq;have iq:e=aC er i:=iq;subst iq;have hE:=aa HA;rw[eR,di] at hE;clear eR;unfold aC;go_wp2_with fail;exact aa mJ er i w5 hE qV _ rfl rfl
   | ok x=>
    obtain⟨P5,l5⟩:=x;rw[eR] at iq;obtain⟨he5,S5,h5⟩:=iq;subst he5;have H5:=ab h5;have hE:=aa HA;rw[eR,aQ] at hE;have nQ:=ab hE;have HY:Hid (Calls prog 55 #[.pointer (some ⟨z,0,none⟩),.pointer (some ⟨B,0,none⟩)] w5 fun e w'=>iz C 0 (z+1) B w5 (fZ C.E P5 l5) e w'):=ab (by
     have q:=y7 (B:=z+1) w5 (aa HX).1 h5.st.rdr h5.st.stm;rw[aa ij] at q;exact q)
    clear eR h5 qV wC hE HA;go_wp2_with fail;refine(aa HY).mono ?_;intro e w6 hp;obtain⟨nn,wB,dN⟩:=(aa H5).post (aa ij) (aa HX).2.2.2.1 hp;clear hp HY
    cases hr6:fZ C.E P5 l5 with
    | error x=>
     obtain⟨er,i⟩:=x;rw[hr6] at dN;have dN:e=aC er i:=dN;subst dN;have hE:=aa nQ;rw[hr6,di] at hE;clear hr6;unfold aC;go_wp2_with fail;exact aa mJ er i w6 hE nn _ rfl rfl
    | ok x=>
     obtain⟨P6,l6⟩:=x;rw[hr6] at dN;obtain⟨he6,S6,h6⟩:=dN;subst he6;have hE:=aa nQ;rw[hr6,aQ] at hE;have H6:=ab h6;have mp:=ab hE;obtain⟨si,cap6,off6,nr,k61,k62, -, -⟩:=h6.st.rdr.blk;rw[aa ij] at nr;have c0:w6.cell? ⟨z,0,none⟩=some (.slice si l6.length cap6):=cr nr;have fc:Hid (Calls prog 56 #[.pointer (some ⟨z,0,none⟩)] w6 fun e w'=>e=aC 2 (ak C.E 0 l6).a∧Below w6.heap.size w6 w'):=ab (by
      have q:=rJ w6 h6.st.rdr;rw[aa ij] at q;exact q)
     have li:=ab nn;clear hr6 h6 nr wB hE nQ H5 nn k61 k62
     by_cases hl6:l6.length=0
     ·have hE:=aa mp
      rw[af hl6] at hE;have HE:=ab hE;have q6:¬(0:Int) < (l6.length:Int):=by omega
      clear hl6 hE;obtain⟨Cs,jC⟩:∃Cs,Cs=S6.cells:=⟨_,rfl⟩;have qZ:Cs.size=24:=by rw[jC];rfl
      have qs:Cs.all (·.oneCell')=true:=by rw[jC];exact SV.cells_one S6
      have hb6:w6.heap[B]? =some (.cells Cs 30 (0,0)):=by rw[jC];exact(aa H6).st.stm.box
      have qw:Hid (SLies (z+1) w6 S6):=ab (⟨(aa H6).st.stm.txt,(aa H6).st.stm.tg,(aa H6).st.stm.va,(aa H6).st.stm.pa,(aa H6).st.stm.ps,(aa H6).st.stm.ls⟩);have fq:=ab hb6;have H16:=ab qs;have nJ:=ab qZ;have jk:=ab (bW w6 B Cs Cs _ _ hb6);have mT:=ab ((eZ w6 B (B+1) Cs (by omega)).trans (aa li).fbox)
      have rC:=ab (bW (w6.setRow B Cs) (B+1) _ #[.int .i64 0,.int .i64 0] _ _ (aa mT));have oH:=ab ((eZ (w6.setRow B Cs) (B+1) B #[.int .i64 0,.int .i64 0] (by omega)).trans (aa jk))
      have gn:Hid (S6.v=.agg Cs):=ab (by rw[jC];rfl)
      have ej:Hid (S6.can=P6):=ab ((aa H6).st.stm.can);clear qZ qs hb6 jC;go_wp2_with (first
       | (refine io rfl 30 _ rfl B rfl 30 Cs (0,0) _ (aa fq) underlying30 rfl (de.trans (by rw[aa nJ])) ?_)
       | (refine bh rfl 30 _ _ rfl B Cs rfl rfl 30 Cs (aa fq) (de.trans (by rw[aa nJ])) rfl (aa H16) ?_)
       | (refine bh rfl 36 _ _ rfl (B+1) #[.int .i64 0,.int .i64 0] rfl rfl 36 #[.int .i64 0,.int .i64 0] (by with_reducible exact aa mT) fh rfl (by simp[Value.oneCell']) ?_)
       | fail)
      (try go_frame)
      refine leaves_cons (f:=51) (args:= #[.pointer (some ⟨B+1,0,none⟩)]) (by simp) (by simp[go_sem]) ?_
      refine(y8 _ _).mono ?_;rintro e u' w'' ⟨rfl,rfl,rfl⟩;refine⟨_,xR _ _ B (B+1) Cs #[.int .i64 0,.int .i64 0] rfl rfl (aa oH) (aa rC) (aa nJ) rfl,aa kP _ _ ⟨ed (ed (aa li).bel B (aw _) Cs) (B+1) (by omega) _,fun p' j' h=> ?_,fun er' a' h=> ?_⟩⟩
      ·rw[aa HE] at h
       injection h with h;injection h with h1 h2
       subst h1;exact⟨S6,by rw[aa gn];rfl,aa ej,(((aa qw).setRow (g:=B) (by have:=(aa HX).2.2.2.1;omega) Cs).setRow (g:=B+1) (by have:=(aa HX).2.2.2.1;omega) _).mono (by have:=(aa HX).2.2.2.1;omega)⟩
      ·rw[aa HE] at h;cases h
     ·have hE:=aa mp
      rw[ac hl6] at hE;have HE:=ab hE;have q6:(0:Int) < (l6.length:Int):=by omega
      clear hl6 hE;go_wp2_with fail;refine(aa fc).mono ?_;rintro e w7 ⟨rfl,hb7⟩;unfold aC;go_wp2_with fail;exact aa mJ 2 _ w7 (aa HE) ((aa li).below hb7) _ rfl rfl
  ·have q32:((b:Int) !=32)=true:=by simp;omega
   by_cases vo:b=58
   ·have bO:Hid (RR=raB s cc l):=ab (by rw[(aa qy).1,aa iv,ac (fun q=>q.2 vo),aQ];rfl)
    have bO:=ab ((aa bO).trans ((aa qy).2 _ _));have q58:((b:Int) !=58)=false:=by simp;omega
    clear vo iU qy iv;go_wp2_with fail;rw[show w1.alloc (.cells #[.slice xa l.length cap,.int .i64 (s.size:Int),.int .i64 0,.map (some w0.heap.size)] 105)=w2 from (aa fb).1.symm];rw[show w1.heap.size=z from (aa fb).2.symm];clear fb;have HA:Hid (RR=aR (el C.E 400 cc l) fun S q=>aR (fZ C.E S q) fun S m=>if m.length=0 then .ok (S,m) else .error (2,(ak C.E 0 m).a)):=ab (aa bO)
    have HD:Hid (Calls prog 54 #[.pointer (some ⟨z,0,none⟩),.pointer (some ⟨B,0,none⟩)] w2 fun e w'=>iz C 0 (z+1) B w2 (el C.E 400 cc l) e w'):=ab (by
     have q:=zn (B:=z+1) (S:=_) w2 (aa HX).1 (aa HX).2.1 (aa H2).st.rdr ((aa HX).2.2.1.but2 (aa H2).st.but (aa HX).2.1) (aa H2).st.stm (bv (aa HX).2.2.2.2 (aa H2).st.but.size) rfl rfl rfl rfl;rw[aa ij] at q;exact q)
    clear bO;refine(aa HD).mono ?_;intro e w5 hp;obtain⟨qV,wC,iq⟩:=(aa H2).post (aa ij) (aa HX).2.2.2.1 hp;clear hp HD
    cases eR:el C.E 400 cc l with
    | error x=>
     obtain⟨er,i⟩:=x;rw[eR] at iq;have iq:e=aC er i:=iq;subst iq;have hE:=aa HA;rw[eR,di] at hE;clear eR;unfold aC;go_wp2_with fail;exact aa mJ er i w5 hE qV _ rfl rfl
    | ok x=>
     obtain⟨P5,l5⟩:=x;rw[eR] at iq;obtain⟨he5,S5,h5⟩:=iq;subst he5;have H5:=ab h5;have hE:=aa HA;rw[eR,aQ] at hE;have nQ:=ab hE;have HY:Hid (Calls prog 55 #[.pointer (some ⟨z,0,none⟩),.pointer (some ⟨B,0,none⟩)] w5 fun e w'=>iz C 0 (z+1) B w5 (fZ C.E P5 l5) e w'):=ab (by
      have q:=y7 (B:=z+1) w5 (aa HX).1 h5.st.rdr h5.st.stm;rw[aa ij] at q;exact q)
     clear eR h5 qV wC hE HA;go_wp2_with fail;refine(aa HY).mono ?_;intro e w6 hp;obtain⟨nn,wB,dN⟩:=(aa H5).post (aa ij) (aa HX).2.2.2.1 hp;clear hp HY
     cases hr6:fZ C.E P5 l5 with
     | error x=>
      obtain⟨er,i⟩:=x;rw[hr6] at dN;have dN:e=aC er i:=dN;subst dN;have hE:=aa nQ;rw[hr6,di] at hE;clear hr6;unfold aC;go_wp2_with fail;exact aa mJ er i w6 hE nn _ rfl rfl
     | ok x=>
      obtain⟨P6,l6⟩:=x;rw[hr6] at dN;obtain⟨he6,S6,h6⟩:=dN;subst he6;have hE:=aa nQ;rw[hr6,aQ] at hE;have H6:=ab h6;have mp:=ab hE;obtain⟨si,cap6,off6,nr,k61,k62, -, -⟩:=h6.st.rdr.blk;rw[aa ij] at nr;have c0:w6.cell? ⟨z,0,none⟩=some (.slice si l6.length cap6):=cr nr;have fc:Hid (Calls prog 56 #[.pointer (some ⟨z,0,none⟩)] w6 fun e w'=>e=aC 2 (ak C.E 0 l6).a∧Below w6.heap.size w6 w'):=ab (by
       have q:=rJ w6 h6.st.rdr;rw[aa ij] at q;exact q)
      have li:=ab nn;clear hr6 h6 nr wB hE nQ H5 nn k61 k62
      by_cases hl6:l6.length=0
      ·have hE:=aa mp
       rw[af hl6] at hE;have HE:=ab hE;have q6:¬(0:Int) < (l6.length:Int):=by omega
       clear hl6 hE;obtain⟨Cs,jC⟩:∃Cs,Cs=S6.cells:=⟨_,rfl⟩;have qZ:Cs.size=24:=by rw[jC];rfl
       have qs:Cs.all (·.oneCell')=true:=by rw[jC];exact SV.cells_one S6
       have hb6:w6.heap[B]? =some (.cells Cs 30 (0,0)):=by rw[jC];exact(aa H6).st.stm.box
       have qw:Hid (SLies (z+1) w6 S6):=ab (⟨(aa H6).st.stm.txt,(aa H6).st.stm.tg,(aa H6).st.stm.va,(aa H6).st.stm.pa,(aa H6).st.stm.ps,(aa H6).st.stm.ls⟩);have fq:=ab hb6;have H16:=ab qs;have nJ:=ab qZ;have jk:=ab (bW w6 B Cs Cs _ _ hb6);have mT:=ab ((eZ w6 B (B+1) Cs (by omega)).trans (aa li).fbox)
       have rC:=ab (bW (w6.setRow B Cs) (B+1) _ #[.int .i64 0,.int .i64 0] _ _ (aa mT));have oH:=ab ((eZ (w6.setRow B Cs) (B+1) B #[.int .i64 0,.int .i64 0] (by omega)).trans (aa jk))
       have gn:Hid (S6.v=.agg Cs):=ab (by rw[jC];rfl)
       have ej:Hid (S6.can=P6):=ab ((aa H6).st.stm.can);clear qZ qs hb6 jC;go_wp2_with (first
        | (refine io rfl 30 _ rfl B rfl 30 Cs (0,0) _ (aa fq) underlying30 rfl (de.trans (by rw[aa nJ])) ?_)
        | (refine bh rfl 30 _ _ rfl B Cs rfl rfl 30 Cs (aa fq) (de.trans (by rw[aa nJ])) rfl (aa H16) ?_)
        | (refine bh rfl 36 _ _ rfl (B+1) #[.int .i64 0,.int .i64 0] rfl rfl 36 #[.int .i64 0,.int .i64 0] (by with_reducible exact aa mT) fh rfl (by simp[Value.oneCell']) ?_)
        | fail)
       (try go_frame)
       refine leaves_cons (f:=51) (args:= #[.pointer (some ⟨B+1,0,none⟩)]) (by simp) (by simp[go_sem]) ?_
       refine(y8 _ _).mono ?_;rintro e u' w'' ⟨rfl,rfl,rfl⟩;refine⟨_,xR _ _ B (B+1) Cs #[.int .i64 0,.int .i64 0] rfl rfl (aa oH) (aa rC) (aa nJ) rfl,aa kP _ _ ⟨ed (ed (aa li).bel B (aw _) Cs) (B+1) (by omega) _,fun p' j' h=> ?_,fun er' a' h=> ?_⟩⟩
       ·rw[aa HE] at h
        injection h with h;injection h with h1 h2
        subst h1;exact⟨S6,by rw[aa gn];rfl,aa ej,(((aa qw).setRow (g:=B) (by have:=(aa HX).2.2.2.1;omega) Cs).setRow (g:=B+1) (by have:=(aa HX).2.2.2.1;omega) _).mono (by have:=(aa HX).2.2.2.1;omega)⟩
       ·rw[aa HE] at h;cases h
      ·have hE:=aa mp
       rw[ac hl6] at hE;have HE:=ab hE;have q6:(0:Int) < (l6.length:Int):=by omega
       clear hl6 hE;go_wp2_with fail;refine(aa fc).mono ?_;rintro e w7 ⟨rfl,hb7⟩;unfold aC;go_wp2_with fail;exact aa mJ 2 _ w7 (aa HE) ((aa li).below hb7) _ rfl rfl
   ·have q58:((b:Int) !=58)=true:=by simp;omega
    have sH:Hid (RR=aR (dL C.E l) fun t r=>raB s {cc with lab:=t} r):=ab (by rw[(aa qy).1,aa iv,af ⟨iU,vo⟩])
    have fQ:Hid (Calls prog 53 #[.pointer (some ⟨z,0,none⟩)] w2 fun e w'=>fJ lE C 0 w2 (dL C.E l) e w'):=ab (by
     have q:=vP w2 (aa H2).st.rdr;rw[aa ij] at q;exact q)
    have ep:=ab (fun t q h=>oP (t:=t) (r:=q) (aa H2).st.rdr h)
    clear vo iU iv;go_wp2_with fail;rw[show w1.alloc (.cells #[.slice xa l.length cap,.int .i64 (s.size:Int),.int .i64 0,.map (some w0.heap.size)] 105)=w2 from (aa fb).1.symm];rw[show w1.heap.size=z from (aa fb).2.symm];clear fb;refine(aa fQ).mono ?_;intro e w3 hp;clear fQ
    cases hr3:dL C.E l with
    | error x=>
     obtain⟨er,i⟩:=x;obtain⟨hb3,rfl⟩:=dr hp hr3;have hE:=aa sH;rw[hr3,di] at hE;have am:=(aa H2).bx.but2 (z:=C.z) (But2.of hb3) (by have:=(aa HX).2.2.2.1;rw[aa ij];exact this)
     clear hr3 hp;unfold aC;go_wp2_with fail;exact aa mJ er i w3 hE am _ rfl rfl
    | ok x=>
     obtain⟨t,r⟩:=x;obtain⟨hb3,rfl,hR3⟩:=dt hp hr3;have hE:=aa sH;rw[hr3,aQ] at hE;have bO:=ab (hE.trans ((aa qy).2 _ _));have h3:=(aa H2).st.next (aa HX).1 hb3 hR3;have c0:=h3.stm.cell (k:=0) rfl;have f0:=h3.stm.fz 0;have am:=((aa H2).bx.but2 (z:=C.z) (But2.of hb3) (by have:=(aa HX).2.2.2.1;rw[aa ij];exact this))
     have tV:=ab (aa ep t r hr3);have h4:=h3.lab (aa HX).1 (aa tV);have H4:Hid (RaS C z B w w2 (w3.setCell ⟨B,0,none⟩ (.string t)) r {cc with lab:=t} {cc with lab:=t}):=ab (⟨h4,am.but2 (z:=C.z) ((But2.refl C.z B w3).set 0 (.string t)) (by have:=(aa HX).2.2.2.1;rw[aa ij];exact this)⟩)
     clear hr3 hp hb3 hR3 hE sH qy h3 am h4 ep;go_wp2_with fail;obtain⟨w4,hw4⟩:∃w4,w4=w3.setCell ⟨B,0,none⟩ (.string t):=⟨_,rfl⟩;rw[←hw4] at H4 ⊢;clear hw4 c0 f0 tV;have HA:Hid (RR=aR (el C.E 400 {cc with lab:=t} r) fun S q=>aR (fZ C.E S q) fun S m=>if m.length=0 then .ok (S,m) else .error (2,(ak C.E 0 m).a)):=ab (aa bO)
     have HD:Hid (Calls prog 54 #[.pointer (some ⟨z,0,none⟩),.pointer (some ⟨B,0,none⟩)] w4 fun e w'=>iz C 0 (z+1) B w4 (el C.E 400 {cc with lab:=t} r) e w'):=ab (by
      have q:=zn (B:=z+1) (S:=_) w4 (aa HX).1 (aa HX).2.1 (aa H4).st.rdr ((aa HX).2.2.1.but2 (aa H4).st.but (aa HX).2.1) (aa H4).st.stm (bv (aa HX).2.2.2.2 (aa H4).st.but.size) rfl rfl rfl rfl;rw[aa ij] at q;exact q)
     clear bO;refine(aa HD).mono ?_;intro e w5 hp;obtain⟨qV,wC,iq⟩:=(aa H4).post (aa ij) (aa HX).2.2.2.1 hp;clear hp HD
     cases eR:el C.E 400 {cc with lab:=t} r with
     | error x=>
      obtain⟨er,i⟩:=x;rw[eR] at iq;have iq:e=aC er i:=iq;subst iq;have hE:=aa HA;rw[eR,di] at hE;clear eR;unfold aC;go_wp2_with fail;exact aa mJ er i w5 hE qV _ rfl rfl
     | ok x=>
      obtain⟨P5,l5⟩:=x;rw[eR] at iq;obtain⟨he5,S5,h5⟩:=iq;subst he5;have H5:=ab h5;have hE:=aa HA;rw[eR,aQ] at hE;have nQ:=ab hE;have HY:Hid (Calls prog 55 #[.pointer (some ⟨z,0,none⟩),.pointer (some ⟨B,0,none⟩)] w5 fun e w'=>iz C 0 (z+1) B w5 (fZ C.E P5 l5) e w'):=ab (by
       have q:=y7 (B:=z+1) w5 (aa HX).1 h5.st.rdr h5.st.stm;rw[aa ij] at q;exact q)
      clear eR h5 qV wC hE HA;go_wp2_with fail;refine(aa HY).mono ?_;intro e w6 hp;obtain⟨nn,wB,dN⟩:=(aa H5).post (aa ij) (aa HX).2.2.2.1 hp;clear hp HY
      cases hr6:fZ C.E P5 l5 with
      | error x=>
       obtain⟨er,i⟩:=x;rw[hr6] at dN;have dN:e=aC er i:=dN;subst dN;have hE:=aa nQ;rw[hr6,di] at hE;clear hr6;unfold aC;go_wp2_with fail;exact aa mJ er i w6 hE nn _ rfl rfl
      | ok x=>
       obtain⟨P6,l6⟩:=x;rw[hr6] at dN;obtain⟨he6,S6,h6⟩:=dN;subst he6;have hE:=aa nQ;rw[hr6,aQ] at hE;have H6:=ab h6;have mp:=ab hE;obtain⟨si,cap6,off6,nr,k61,k62, -, -⟩:=h6.st.rdr.blk;rw[aa ij] at nr;have c0:w6.cell? ⟨z,0,none⟩=some (.slice si l6.length cap6):=cr nr;have fc:Hid (Calls prog 56 #[.pointer (some ⟨z,0,none⟩)] w6 fun e w'=>e=aC 2 (ak C.E 0 l6).a∧Below w6.heap.size w6 w'):=ab (by
        have q:=rJ w6 h6.st.rdr;rw[aa ij] at q;exact q)
       have li:=ab nn;clear hr6 h6 nr wB hE nQ H5 nn k61 k62
       by_cases hl6:l6.length=0
       ·have hE:=aa mp
        rw[af hl6] at hE;have HE:=ab hE;have q6:¬(0:Int) < (l6.length:Int):=by omega
        clear hl6 hE;obtain⟨Cs,jC⟩:∃Cs,Cs=S6.cells:=⟨_,rfl⟩;have qZ:Cs.size=24:=by rw[jC];rfl
        have qs:Cs.all (·.oneCell')=true:=by rw[jC];exact SV.cells_one S6
        have hb6:w6.heap[B]? =some (.cells Cs 30 (0,0)):=by rw[jC];exact(aa H6).st.stm.box
        have qw:Hid (SLies (z+1) w6 S6):=ab (⟨(aa H6).st.stm.txt,(aa H6).st.stm.tg,(aa H6).st.stm.va,(aa H6).st.stm.pa,(aa H6).st.stm.ps,(aa H6).st.stm.ls⟩);have fq:=ab hb6;have H16:=ab qs;have nJ:=ab qZ;have jk:=ab (bW w6 B Cs Cs _ _ hb6);have mT:=ab ((eZ w6 B (B+1) Cs (by omega)).trans (aa li).fbox)
        have rC:=ab (bW (w6.setRow B Cs) (B+1) _ #[.int .i64 0,.int .i64 0] _ _ (aa mT));have oH:=ab ((eZ (w6.setRow B Cs) (B+1) B #[.int .i64 0,.int .i64 0] (by omega)).trans (aa jk))
        have gn:Hid (S6.v=.agg Cs):=ab (by rw[jC];rfl)
        have ej:Hid (S6.can=P6):=ab ((aa H6).st.stm.can);clear qZ qs hb6 jC;go_wp2_with (first
         | (refine io rfl 30 _ rfl B rfl 30 Cs (0,0) _ (aa fq) underlying30 rfl (de.trans (by rw[aa nJ])) ?_)
         | (refine bh rfl 30 _ _ rfl B Cs rfl rfl 30 Cs (aa fq) (de.trans (by rw[aa nJ])) rfl (aa H16) ?_)
         | (refine bh rfl 36 _ _ rfl (B+1) #[.int .i64 0,.int .i64 0] rfl rfl 36 #[.int .i64 0,.int .i64 0] (by with_reducible exact aa mT) fh rfl (by simp[Value.oneCell']) ?_)
         | fail)
        (try go_frame)
        refine leaves_cons (f:=51) (args:= #[.pointer (some ⟨B+1,0,none⟩)]) (by simp) (by simp[go_sem]) ?_
        refine(y8 _ _).mono ?_;rintro e u' w'' ⟨rfl,rfl,rfl⟩;refine⟨_,xR _ _ B (B+1) Cs #[.int .i64 0,.int .i64 0] rfl rfl (aa oH) (aa rC) (aa nJ) rfl,aa kP _ _ ⟨ed (ed (aa li).bel B (aw _) Cs) (B+1) (by omega) _,fun p' j' h=> ?_,fun er' a' h=> ?_⟩⟩
        ·rw[aa HE] at h
         injection h with h;injection h with h1 h2
         subst h1;exact⟨S6,by rw[aa gn];rfl,aa ej,(((aa qw).setRow (g:=B) (by have:=(aa HX).2.2.2.1;omega) Cs).setRow (g:=B+1) (by have:=(aa HX).2.2.2.1;omega) _).mono (by have:=(aa HX).2.2.2.1;omega)⟩
        ·rw[aa HE] at h;cases h
       ·have hE:=aa mp
        rw[ac hl6] at hE;have HE:=ab hE;have q6:(0:Int) < (l6.length:Int):=by omega
        clear hl6 hE;go_wp2_with fail;refine(aa fc).mono ?_;rintro e w7 ⟨rfl,hb7⟩;unfold aC;go_wp2_with fail;exact aa mJ 2 _ w7 (aa HE) ((aa li).below hb7) _ rfl rfl
end Go.Proofs.YtlmnjbipfacniaaGreatDoor
