/- The reader of lines: the signs that stand between; tokens ar -/
import Derived.Test.YtlmnjbipfacniaaGreatDoorSySM
import Derived.Test.YtlmnjbipfacniaaGreatDoorSyAM
import Derived.Defers
set_option maxRecDepth 100000
set_option maxHeartbeats 4000000
namespace Go.Proofs.YtlmnjbipfacniaaGreatDoor
open Go.Proofs.Tryz
open Go.RowKit
def btN:Nat→ByteArray→Option Int
 | 0=>fun _=>none
 | n+1=>fun t=>if t=cL ((8+n:Nat):Int) then some ((8+n:Nat):Int) else btN n t
theorem bt_all:btN 6=wk:=by
 funext t
 have e:∀(k:Int) (b:UInt8),cL k=ah b→(t=cL k↔t=ah b):=fun k b h=>by rw[h]
 unfold wk gT;simp only[btN,e _ 38 (show cL ((8+0:Nat):Int)=ah 38 from rfl),e _ 43 (show cL ((8+1:Nat):Int)=ah 43 from rfl),e _ 45 (show cL ((8+2:Nat):Int)=ah 45 from rfl),e _ 42 (show cL ((8+3:Nat):Int)=ah 42 from rfl),e _ 47 (show cL ((8+4:Nat):Int)=ah 47 from rfl),e _ 37 (show cL ((8+5:Nat):Int)=ah 37 from rfl)]
 by_cases h1:t=ah 38
 ·subst h1;decide
 ·by_cases h2:t=ah 43
  ·subst h2;decide
  ·by_cases h3:t=ah 45
   ·subst h3;decide
   ·by_cases h4:t=ah 42
    ·subst h4;decide
    ·by_cases h5:t=ah 47
     ·subst h5;decide
     ·by_cases h6:t=ah 37
      ·subst h6;decide
      ·simp only[h1,h2,h3,h4,h5,h6,if_false,if_true]
theorem Hy (w:World) (hX:gP w):Calls prog 52 #[] w fun e w'=>e=.returned (.map (some w.heap.size))∧MI w' w.heap.size 6 wk∧Below w.heap.size w w':=by
 have rZ:= @run_makeMap prog;have HX:=ab hX;have aD:Hid (Below w.heap.size w (w.alloc (.map #[] 0))):=ab (ba _);have HM0:=ab (MI.new (w:=w));have ks:(0:Nat) < w.heap.size:=de _ _ (hX 8 (by decide) (by decide)).1
 clear hX;go_enter func52,ntmps52;go_wp2_with fail;go_loopw [2] (fun v wr=>∃n:Nat,n≤6∧v=.int .i64 ((8+n:Nat):Int)∧Hid (MI wr w.heap.size n (btN n)∧Below w.heap.size w wr)) (fun v _=>14 - (intOf v).toNat)
 case atStart=>exact⟨0,by decide,rfl,aa HM0,aa aD⟩
 case round=>
  obtain⟨n,hn,rfl,HI⟩:=hrel;rcases cX n 6 with au | jc
  ·obtain⟨K,hK⟩:∃K:Nat,K=8+n:=⟨_,rfl⟩
   have l7:=(aa HX K (by omega) (by omega)).1
   have hsg2:=av (aa HI).2 l7;have HP:Hid ((fun t=>if t=cL (K:Int) then some (K:Int) else btN n t)=btN (n+1)):=ab (by rw[hK];rfl)
   rw[←hK];have tO:(K:Int)≤13:=by omega
   have hK8:8≤K∧K≤13:=by omega
   have HK:=ab hK;have hss:(cL (K:Int)).size≤maxLen:=by
    have:K=8∨K=9∨K=10∨K=11∨K=12∨K=13:=by omega
    unfold maxLen;rcases this with rfl | rfl | rfl | rfl | rfl | rfl <;> decide
   have HSS:=ab hss;clear l7 hK hss;generalize hsx:cL (K:Int)=sx at *;go_wp2_with (first
    | (refine IK rfl _ _ _ (.inr rfl) rfl (aa HI).1 (by omega) sx (K:Int) rfl rfl (aa HSS) (by simp[Lit.wf,IntKind.min,IntKind.max,IntKind.signed,IntKind.bits];omega) ?_;intro w6 hM6 hg6;rw[aa HP] at hM6;have HZ:Hid (MI w6 w.heap.size (n+1) (btN (n+1))∧Below w.heap.size w w6):=ab (⟨hM6,(aa HI).2.trans ⟨hg6.os,hg6.tape,hg6.output,hg6.size,fun k hk=>hg6.block k (i6 hk (aa HI).2.size) (fun e=>by injection e with e;omega)⟩⟩);clear hM6 hg6)
    | fail)
   have hk:=aa HK;exact⟨⟨n+1,by omega,by rw[hk];go_num,aa HZ⟩,by simp[intOf];omega⟩
  ·obtain rfl:n=6:=by omega
   go_wp2_with fail;go_ret;exact⟨rfl,by rw[←bt_all];exact(aa HI).1,(aa HI).2⟩
open Go.RowKit
theorem Nu (s:ByteArray) (i:Nat):(ct s i).length≤s.size - i:=
 xk (P:=fun i=>(ct s i).length≤s.size - i) (fun i hi=>by rw[GD hi];exact cU _) (fun i hi hb ih=>by rw[yb hi hb,List.length_cons];omega)
  (fun i hb hc ih=>by rw[yw hb hc,List.length_cons];have:=mx (s:=s) (i:=i+1) (by omega);omega) (fun i hb hc=>by rw[yl hb hc];exact cU _) s.size i (by omega)
theorem yG (s:ByteArray) (i j:Nat):(s.extract i j).size≤s.size:=by rw[ByteArray.size_extract];omega
theorem KR (s:ByteArray) (i:Nat):(tk s i).2.2.size≤s.size:=by
 unfold tk;split
 ·exact yG s _ _
 ·split
  ·exact yG s _ _
  ·split
   ·split
    ·exact cU _
    ·show (ct s (i+1)).toArray.size≤s.size
     have:=Nu s (i+1);simp only[wo];omega
   ·split
    ·split
     ·exact cU _
     ·exact yG s _ _
    ·split
     ·exact yG s _ _
     ·split
      ·exact yG s _ _
      ·exact cU _
theorem Kk (s:ByteArray) (i:Nat):∀b ∈ (s.extract i (dd s cW i)).data.toList,48≤b.toNat∧b.toNat≤57:=fun b hb=>by
 obtain⟨m,hm⟩:=List.mem_iff_getElem?.1 hb;have au:=(rN.1 hm).1;rw[AC,Array.length_toList,Array.size_extract] at au;rw[AC,th,Array.getElem?_extract,af (by omega)] at hm
 have hd:=E3 (s:=s) (p:=cW) (i:=i) (i+m) (by omega) (by omega)
 have hb2:aj s (i+m)=b.toNat:=by
  unfold aj;rw[AA,th,hm];rfl
 rw[hb2] at hd;exact Dc hd
theorem tk_TkS {s:ByteArray} (hs:s.size≤2000) {i:Nat} (hi:i < s.size):uR ⟨(tk s i).1,(tk s i).2.2,i⟩:=by
 refine⟨(yC s i hi).2.2.2,bJ (KR s i) hs,(by show i≤2000;omega),fun h2=> ?_⟩
 have h2:(tk s i).1=2:=h2;show (tk s i).2.2.size≠0∧∀b ∈ (tk s i).2.2.data.toList,48≤b.toNat∧b.toNat≤57;unfold tk at h2 ⊢;split at h2
 ·cases h2
 ·split at h2
  ·rename_i hl hd
   rw[ac hl,af hd];refine⟨?_,Kk s i⟩;show (s.extract i (dd s cW i)).size≠0;have h1:=mW s cW (i+1) (by omega)
   rw[ByteArray.size_extract,nJ hi hd];omega
  ·split at h2
   ·split at h2 <;> cases h2
   ·split at h2
    ·split at h2 <;> cases h2
    ·split at h2
     ·cases h2
     ·split at h2 <;> cases h2
theorem Bs (s:ByteArray):∀x ∈ (gc s).1,uR x:=by
 unfold gc;split
 ·intro x hx;cases hx
 ·rename_i hs
  exact Ch (P:=fun i l=>(∀x ∈ l,uR x)→∀x ∈ (ln s i l).1,uR x) (fun l h=>by rw[Ci];exact h) (fun i l hi hb ih h=>by rw[Eo hi hb];exact ih h) (fun i l hi hb hk h=>by rw[Gp hi hb hk];intro x hx;cases hx)
   (fun i l hi hb hk ih h=>by
    rw[Cg hi hb hk];refine ih fun x hx=> ?_
    rcases rR.1 hx with q | q
    ·exact h x q
    ·rw[fE] at q
     subst q;exact tk_TkS (by omega) hi) s.size 0 [] (cU _) (by omega) (fun x hx=>by cases hx)
open Go.RowKit
theorem cn:(prog.info? 30).map (·.size)=some 24:=by kernel_rfl
theorem fy:(prog.info? 36).map (·.size)=some 2:=by kernel_rfl
theorem Hg (g:Nat) (er:Int) (i:Nat) (old:Array Value) (older:List PanicEntry) (w:World) (hg:w.heap[g]? =some (.cells old 36 (0,0))) (ho:old.size=2):
  CallsD prog 51 #[.pointer (some ⟨g,0,none⟩)] (.panicking ({v:=.iface 36 (du er i),recovered:=false}::older)) w fun e u' w'=>
   e=.returned (.tuple #[])∧u'=.panicking ({v:=.iface 36 (du er i),recovered:=true}::older)∧w'=w.setRow g #[.int .i64 er,.int .i64 (i:Int)]:=by
 refine callsD_of_wpS func51 rfl fun c₀ cs hu=> ?_
 apply wpS_seq;apply wpS_region;simp[wpOpsS,go_sem,recoverD,hu,ntmps51,Exit.thenS];refine wpS_of_wp ?_;rw[show (#[Value.pointer (some ⟨g,0,none⟩)]++((Array.replicate 6 undef).setIfInBounds 1 (Value.iface 36 (du er i))).setIfInBounds 0 (Value.iface 36 (du er i)):Array Value)= #[.pointer (some ⟨g,0,none⟩),.iface 36 (du er i),.iface 36 (du er i),undef,undef,undef,undef] from rfl];have HG:=ab hg;clear hg;have hta:∀(v:Value) (x:TypeId) (w:World),(Instr.typeAssert (.iface 36 v) x 36 false).run prog w=.ok v w:=fun v x w=>by
  simp[Instr.typeAssert,run_underlying underlying36,go_sem,Result.andThen]
 unfold du;go_wp2_with (first
  | (refine aX rfl 36 _ _ rfl g #[.int .i64 er,.int .i64 (i:Int)] rfl rfl 36 old (aa HG) fy ho (by simp[Value.oneCell']) ?_)
  | fail)
 exact⟨rfl,_,rfl,_,results_none rfl _ _ _,rfl,rfl,rfl⟩
theorem zd (p:Addr) (w:World):
  CallsD prog 51 #[.pointer (some p)] .returning w fun e u' w'=>e=.returned (.tuple #[])∧u'=.returning∧w'=w:=by
 refine callsD_of_wpS func51 rfl fun c₀ cs hu=> ?_
 apply wpS_seq;apply wpS_region;simp[wpOpsS,go_sem,recoverD,hu,ntmps51,Exit.thenS];refine wpS_of_wp ?_;rw[show (#[Value.pointer (some p)]++((Array.replicate 6 undef).setIfInBounds 1 Value.nilIface).setIfInBounds 0 Value.nilIface:Array Value)= #[.pointer (some p),.nilIface,.nilIface,undef,undef,undef,undef] from rfl];go_wp2_with fail;exact⟨rfl,_,by cases c₀;simp_all,_,results_none rfl _ _ _,rfl,rfl,rfl⟩
theorem xV (tmps:Array Value) (W:World) (gp gf:Nat) (cs fs:Array Value) (h4:tmps.getD 4 undef=.pointer (some ⟨gp,0,none⟩)) (h5:tmps.getD 5 undef=.pointer (some ⟨gf,0,none⟩)) (hp:W.heap[gp]? =some (.cells cs 30 (0,0))) (hf:W.heap[gf]? =some (.cells fs 36 (0,0))) (kw:cs.size=24) (hfs:fs.size=2):
  (results Tryz.f23 tmps).run prog W=.ok (.tuple #[.agg cs,.agg fs]) W:=by
 have h4':tmps[4]?.getD undef=.pointer (some ⟨gp,0,none⟩):=by simpa using h4
 have h5':tmps[5]?.getD undef=.pointer (some ⟨gf,0,none⟩):=by simpa using h5
 have e1:=tn (P:=prog) W gp 30 30 cs (0,0) _ hp underlying30 rfl (by rw[kw];exact cn)
 have e2:=tn (P:=prog) W gf 36 36 fs (0,0) _ hf underlying36 rfl (by rw[hfs];exact fy)
 simp[results,Tryz.results23,h4',h5',asAddr,e1,e2]
structure SLies (B:Nat) (w:World) (S:SV):Prop where
 txt:S.lab.size≤2000∧S.nm.size≤2000∧S.en.size≤2000∧S.al.size≤2000∧S.ye.size≤2000∧S.no.size≤2000
 tg:bd B w S.tg
 va:bd B w S.va
 pa:bd B w S.pa
 ps:lC B w S.ps
 ls:lC B w S.ls
theorem SLies.step {B:Nat} {w w':World} {S:SV} (h:SLies B w S) (hs:w.heap.size≤w'.heap.size) (hb:∀i,B≤i→i < w.heap.size→w'.heap[i]? =w.heap[i]?):SLies B w' S:=⟨h.txt,h.tg.step hs hb,h.va.step hs hb,h.pa.step hs hb,h.ps.step hs hb,h.ls.step hs hb⟩
theorem SLies.below {B:Nat} {w w':World} {S:SV} (h:SLies B w S) (hb:Below w.heap.size w w'):SLies B w' S:=h.step hb.size fun i _ h2=>hb.block i h2
theorem SLies.setRow {B g:Nat} {w:World} {S:SV} (h:SLies B w S) (hg:g < B) (cs:Array Value):SLies B (w.setRow g cs) S:=h.step (by simp) fun i h1 _=>dH w g i cs (by omega)
theorem SLies.mono {B C:Nat} {w:World} {S:SV} (h:SLies C w S) (hc:B≤C):SLies B w S:=⟨h.txt,h.tg.mono hc,h.va.mono hc,h.pa.mono hc,fun X hX=>h.ps X fun i h1 h2=>hX i (by omega) h2,fun X hX=>h.ls X fun i h1 h2=>hX i (by omega) h2⟩
theorem SLies.here {B:Nat} {w:World} {S:SV} (h:SLies B w S):S.In w:=by
 obtain⟨a,b,c,d,e,f⟩:=h.txt;exact⟨⟨by unfold maxLen;omega,by unfold maxLen;omega,by unfold maxLen;omega,by unfold maxLen;omega,by unfold maxLen;omega,by unfold maxLen;omega⟩,h.tg.here,h.va.here,h.pa.here,h.ps w fun _ _ _=>rfl,h.ls w fun _ _ _=>rfl⟩
theorem SV.cells_one (S:SV):S.cells.all (·.oneCell')=true:=by
 unfold SV.cells NL.v;simp[Value.oneCell']
def Cu (s:ByteArray) (l:List Tk) (w:World) (e:Ending) (w':World):Prop:=
 Below w.heap.size w w'∧(∀P m,oG s l=.ok (P,m)→∃S:SV,e=.returned (.tuple #[S.v,du 0 0])∧S.can=P∧SLies w.heap.size w' S)∧
  (∀er a,oG s l=.error (er,a)→∃C:Array Value,e=.returned (.tuple #[.agg C,du er a])∧C.size=24∧C.all (·.oneCell')=true)
def raB (s:ByteArray) (S:SV) (l:List Tk):Sy SV:=aR (et s.size 400 S l) fun S q=>aR (ge s.size S q) fun S m=>if m.length=0 then .ok (S,m) else .error (2,(ak s.size 0 m).a)
theorem xg (w:World):PT.nul.In w:=⟨⟨by decide,by decide⟩,by decide,⟨by decide,by decide⟩,by decide,by decide,by decide,fun h=>absurd h (by decide),fun i=>i.elim0⟩
theorem Ef (B:Nat) (w:World):lC B w (dj []):=fun X _=>⟨ax _,cU _,fun h=>absurd h (by decide),fun i t h=>by cases h⟩
theorem vZ:PT.nul.can=PT.nul:=by
 rw[PT.can_eq];show aI 0 ByteArray.empty 0 ByteArray.empty []=PT.nul;unfold aI PT.nul
 congr 1
 funext i
 exact i.elim0
theorem Mr:bh.can=bh:=by
 show SV.mk ByteArray.empty 0 PT.nul.can PT.nul.can PT.nul.can ByteArray.empty ByteArray.empty (dj []) (dj []) ByteArray.empty ByteArray.empty ByteArray.empty=bh;rw[vZ];rfl
theorem zSV_in {w:World} {sb:Nat} (B:Nat) (h:w.heap[sb]? =some (.cells bh.cells 30 (0,0))):StIn B sb w bh bh:=
 ⟨h,Mr,by decide,fun X _=>xg X,fun X _=>xg X,fun X _=>xg X,Ef B w,Ef B w⟩
theorem StR.lab {C:SyC} {o B sb:Nat} {w W:World} {l:List Tk} {S P:SV} (h:StR C o B sb w W l S P) (hS:SyS C B sb) {t:ByteArray} (ht:t.size≤2000):StR C o B sb w (W.setCell ⟨sb,0,none⟩ (.string t)) l {S with lab:=t} {P with lab:=t}:=
 ⟨h.but.set _ _,h.rdr.stm hS,h.stm.put hS.s rfl (by rw[←h.stm.can];rfl) ⟨ht,h.stm.txt.2⟩ rfl rfl rfl rfl rfl⟩
end Go.Proofs.YtlmnjbipfacniaaGreatDoor
