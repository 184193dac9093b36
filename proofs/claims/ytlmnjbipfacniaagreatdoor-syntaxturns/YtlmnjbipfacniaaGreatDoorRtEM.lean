/- The reader of patterns: what is thrown is caught. What is wr -/
import Derived.Test.YtlmnjbipfacniaaGreatDoorRdLM
import Derived.Defers
import Derived.Test.YtlmnjbipfacniaaGreatDoorRowBaseM
import Derived.Test.YtlmnjbipfacniaaGreatDoorPlCM
set_option maxRecDepth 100000
set_option maxHeartbeats 4000000
namespace Go.Proofs.YtlmnjbipfacniaaGreatDoor
open Go.Proofs.Tryz
open Go.RowKit
theorem DW:∀d,d≤200→oF 166 d (fun s=>iY s d)
 | 0,h=>by
  have hB:∀s:ByteArray,eG s (fun j=>(.error (0,j):Rd PT)):=fun s i x j _ h=>by cases h
  exact EH hB (Dn hB (DL hB (EG (C0 h hB (fun h=>absurd h (by decide))))))
 | d+1,h=>by
  have hB:∀s:ByteArray,eG s (iY s d):=fun s=>yp s d
  exact EH hB (Dn hB (DL hB (EG (C0 h hB (fun _=>DW d (by omega))))))
theorem zi:(prog.info? 36).map (·.size)=some 2:=by kernel_rfl
theorem Hi (g:Nat) (er:Int) (i:Nat) (old:Array Value) (older:List PanicEntry) (w:World) (hg:w.heap[g]? =some (.cells old 36 (0,0))) (ho:old.size=2):
  CallsD prog 165 #[.pointer (some ⟨g,0,none⟩)] (.panicking ({v:=.iface 36 (du er i),recovered:=false}::older)) w fun e u' w'=>
   e=.returned (.tuple #[])∧u'=.panicking ({v:=.iface 36 (du er i),recovered:=true}::older)∧w'=w.setRow g #[.int .i64 er,.int .i64 (i:Int)]:=by
 refine callsD_of_wpS func165 rfl fun c₀ cs hu=> ?_
 apply wpS_seq;apply wpS_region;simp[wpOpsS,go_sem,recoverD,hu,ntmps165,Exit.thenS];refine wpS_of_wp ?_;rw[show (#[Value.pointer (some ⟨g,0,none⟩)]++((Array.replicate 6 undef).setIfInBounds 1 (Value.iface 36 (du er i))).setIfInBounds 0 (Value.iface 36 (du er i)):Array Value)= #[.pointer (some ⟨g,0,none⟩),.iface 36 (du er i),.iface 36 (du er i),undef,undef,undef,undef] from rfl];have HG:=ab hg;clear hg;have hta:∀(v:Value) (x:TypeId) (w:World),(Instr.typeAssert (.iface 36 v) x 36 false).run prog w=.ok v w:=fun v x w=>by
  simp[Instr.typeAssert,run_underlying underlying36,go_sem,Result.andThen]
 unfold du;go_wp2_with (first
  | (refine aX rfl 36 _ _ rfl g #[.int .i64 er,.int .i64 (i:Int)] rfl rfl 36 old (aa HG) zi ho (by simp[Value.oneCell']) ?_)
  | fail)
 exact⟨rfl,_,rfl,_,results_none rfl _ _ _,rfl,rfl,rfl⟩
theorem Jx (p:Addr) (w:World):
  CallsD prog 165 #[.pointer (some p)] .returning w fun e u' w'=>e=.returned (.tuple #[])∧u'=.returning∧w'=w:=by
 refine callsD_of_wpS func165 rfl fun c₀ cs hu=> ?_
 apply wpS_seq;apply wpS_region;simp[wpOpsS,go_sem,recoverD,hu,ntmps165,Exit.thenS];refine wpS_of_wp ?_;rw[show (#[Value.pointer (some p)]++((Array.replicate 6 undef).setIfInBounds 1 Value.nilIface).setIfInBounds 0 Value.nilIface:Array Value)= #[.pointer (some p),.nilIface,.nilIface,undef,undef,undef,undef] from rfl];go_wp2_with fail;exact⟨rfl,_,by cases c₀;simp_all,_,results_none rfl _ _ _,rfl,rfl,rfl⟩
theorem ET (tmps:Array Value) (W:World) (gp gf:Nat) (cs fs:Array Value) (h2:tmps.getD 2 undef=.pointer (some ⟨gp,0,none⟩)) (h3:tmps.getD 3 undef=.pointer (some ⟨gf,0,none⟩)) (hp:W.heap[gp]? =some (.cells cs 27 (0,0))) (hf:W.heap[gf]? =some (.cells fs 36 (0,0))) (kw:cs.size=5) (hfs:fs.size=2):
  (results Tryz.f149 tmps).run prog W=.ok (.tuple #[.agg cs,.agg fs]) W:=by
 have h2':tmps[2]?.getD undef=.pointer (some ⟨gp,0,none⟩):=by simpa using h2
 have h3':tmps[3]?.getD undef=.pointer (some ⟨gf,0,none⟩):=by simpa using h3
 have e1:=tn (P:=prog) W gp 27 27 cs (0,0) _ hp underlying27 rfl (by rw[kw];exact dK)
 have e2:=tn (P:=prog) W gf 36 36 fs (0,0) _ hf underlying36 rfl (by rw[hfs];exact zi)
 simp[results,Tryz.results149,h2',h3',asAddr,e1,e2]
theorem Is (s:ByteArray) (w:World) (hs:s.size≤65536) (hS:dI w):Calls prog 149 #[.string s] w fun e w'=>Below w.heap.size w w'∧
  (∀p j,m5 s=.ok (p,j)→∃U:PT,e=.returned (.tuple #[pv U,du 0 0])∧U.can=p∧bd w.heap.size w' U)∧(∀er a,m5 s=.error (er,a)→∃V:PT,e=.returned (.tuple #[pv V,du er a])):=by
 have hmf:∀(fn:Fn) (first cap:Array Value) (w:World),(Instr.makeFunc fn first cap).run prog w=.ok (.func fn first cap) w:=fun _ _ _ _=>rfl
 have hG:=hS.lt;obtain⟨w0,gh⟩:∃w0,w0=((w.alloc (.cells aB 27)).alloc (.cells #[.int .i64 0,.int .i64 0] 36)).alloc (.cells #[.string s,.int .i64 0,.int .i64 0] 198):=⟨_,rfl⟩;have aZ:Below w.heap.size w w0:=by rw[gh];exact((ba _).alloc (by simp) _).alloc (by simp;omega) _
 have ay:w0.heap.size=w.heap.size+1+1+1:=by rw[gh];simp
 have lg:bR w0 (w.heap.size+1+1) s 0 0:=by rw[gh];exact aw (by simp)
 have qP:w0.heap[w.heap.size+1]? =some (.cells #[.int .i64 0,.int .i64 0] 36 (0,0)):=by rw[gh];exact bL (by simp) (aw (by simp))
 have hp0:w0.heap[w.heap.size]? =some (.cells aB 27 (0,0)):=by rw[gh];exact bL (by simp;omega) (bL (by simp) oE)
 obtain⟨D,hD⟩:∃D,D=200:=⟨_,rfl⟩;have ho:((200 - D:Nat):Int)=0:=by omega
 have hA:Calls prog 166 #[.pointer (some ⟨w.heap.size+1+1,0,none⟩)] w0 fun e w'=>fZ (fv w0.heap.size) (w.heap.size+1+1) s ((200 - D:Nat):Int) w0 (iY s D 0) e w':=
  DW D (by omega) s 0 (w.heap.size+1+1) w0 hs (cU _) (by rw[ho];exact lg) (hS.later aZ) (by omega)
 rw[ho] at hA;have HA:=ab hA;have HW:=ab gh;have H0:=ab (And.intro aZ (And.intro qP hp0));have HRD:Hid (m5 s=bO (iY s D 0) fun p j=>if j < s.size then .error (2,j) else .ok (p,j)):=ab (by rw[hD];rfl)
 have pm:=ab (fun p j=>yp s D 0 p j (cU _))
 generalize m5 s=RA at *;generalize iY s D 0=R at *;clear gh aZ lg qP hp0 hS hA ho hD D;have key:∀(er:Int) (a:Nat) (W:World),But (w.heap.size+1+1) w0 W∨True→RA=.error (er,a)→Below w.heap.size w W→W.heap[w.heap.size+1]? =some (.cells #[.int .i64 0,.int .i64 0] 36 (0,0))→(∃V:PT,W.heap[w.heap.size]? =some (.cells (ai V) 27 (0,0)))→∀tmps:Array Value,tmps.getD 2 undef=.pointer (some ⟨w.heap.size,0,none⟩)→tmps.getD 3 undef=.pointer (some ⟨w.heap.size+1,0,none⟩)→
   bodyPostD prog Tryz.f149 (fun e w'=>Below w.heap.size w w'∧(∀p j,RA=.ok (p,j)→∃U:PT,e=.returned (.tuple #[pv U,du 0 0])∧U.can=p∧bd w.heap.size w' U)∧(∀er a,RA=.error (er,a)→∃V:PT,e=.returned (.tuple #[pv V,du er a])))
    (Exit.panic [{v:=.iface 36 (du er a),recovered:=false}]) {tmps:=tmps,defers:=[{target:=Target.fn (Fn.func 165) #[.pointer (some ⟨w.heap.size+1,0,none⟩)],args:= #[]}]} W:=by
  intro er a W _ hRA gJ hfW hpW tmps ht2 ht3;obtain⟨V,kw⟩:=hpW;refine leaves_cons (f:=165) (args:= #[.pointer (some ⟨w.heap.size+1,0,none⟩)]) (by simp) (by simp[go_sem]) ?_
  refine(Hi (w.heap.size+1) er a _ [] _ hfW rfl).mono ?_;rintro e u' w'' ⟨rfl,rfl,rfl⟩;have l8:w.heap.size≠w.heap.size+1:=by omega
  refine⟨_,ET tmps _ w.heap.size (w.heap.size+1) (ai V) #[.int .i64 er,.int .i64 (a:Int)] ht2 ht3 ((dH W _ _ _ l8).trans kw) (cm _ _ _ _ _ _ hfW) rfl rfl,eL gJ _ (by omega) _,fun p j h=> ?_,fun er' a' h=> ?_⟩
  ·rw[hRA] at h;cases h
  ·rw[hRA] at h
   injection h with h;injection h with h1 h2
   subst h1 h2;exact⟨V,rfl⟩
 have mH:=ab key;clear key;rcases R with ⟨er,a⟩ | ⟨p,j⟩
 ·have gA:Hid (RA=.error (er,a)):=ab (by rw[aa HRD,jA])
  go_enter_defers func149,ntmps149;go_wp2_with fail;rw[show ((w.alloc (.cells #[.int .i64 0,.string ⟨#[]⟩,.int .i64 0,.string ⟨#[]⟩,.slice none 0 0] 27)).alloc (.cells #[.int .i64 0,.int .i64 0] 36)).alloc (.cells #[.string s,.int .i64 0,.int .i64 0] 198)=w0 from (aa HW).symm];refine(aa HA).mono ?_;intro e w1 hP;obtain⟨hb1,rfl⟩:=j9 hP rfl;unfold aC;exact aa mH er a w1 (.inr trivial) (aa gA) (But.below (aa H0).1 hb1 (by omega)) (dS hb1 (aa H0).2.1 (by omega)) ⟨aI 0 ⟨#[]⟩ 0 ⟨#[]⟩ [],dS hb1 (aa H0).2.2 (by omega)⟩ _ rfl rfl
 ·have nf:=aa pm p j rfl
  have d6:Hid (RA=if j < s.size then .error (2,j) else .ok (p,j)):=ab (by rw[aa HRD,dE])
  go_enter_defers func149,ntmps149;go_wp2_with fail;rw[show ((w.alloc (.cells #[.int .i64 0,.string ⟨#[]⟩,.int .i64 0,.string ⟨#[]⟩,.slice none 0 0] 27)).alloc (.cells #[.int .i64 0,.int .i64 0] 36)).alloc (.cells #[.string s,.int .i64 0,.int .i64 0] 198)=w0 from (aa HW).symm];refine(aa HA).mono ?_;intro e w1 hP;obtain⟨hb1,⟨U,rfl,hU,hL⟩,hR1⟩:=jB hP rfl;have fd:=ab (dS hb1 (aa H0).2.1 (by omega))
  have cf:=ab (dS hb1 (aa H0).2.2 (by omega))
  have bf:=ab (But.below (aa H0).1 hb1 (by omega))
  have HU:=ab (And.intro hU hL);have dW:=ab (cm w1 w.heap.size aB (ai U) _ _ (aa cf));have ow:=ab ((dH w1 w.heap.size (w.heap.size+1) (ai U) (by omega)).trans (aa fd))
  have aF:=ab (eL (aa bf) w.heap.size (ax _) (ai U));have lQ:=ab (hL.setRow (g:=w.heap.size) (by omega) (ai U))
  have h2R:=hR1.setRow (g:=w.heap.size) (by omega) (ai U)
  have c1:=h2R.c1;have H2:=ab h2R;clear hP hb1 hU hL hR1 HA pm HRD h2R;unfold pv;have HSTO:=ab (aa cf)
  by_cases hj:j < s.size
  ·have gA:Hid (RA=.error (2,j)):=ab (by rw[aa d6,af hj])
   have hg:(j:Int) < (s.size:Int):=by omega
   have fw:=ab (uq _ (aa H2));clear hj;go_wp2_with (first
    | (refine aX rfl 27 _ _ rfl w.heap.size (ai U) rfl rfl 27 aB (aa HSTO) dK rfl (ik _) ?_)
    | (refine(aa fw).mono ?_;rintro e w ⟨rfl,rfl⟩;unfold aC))
   exact aa mH 2 j _ (.inr trivial) (aa gA) (aa aF) (aa ow) ⟨U,aa dW⟩ _ rfl rfl
  ·have gA:Hid (RA=.ok (p,j)):=ab (by rw[aa d6,ac hj])
   have hg:¬(j:Int) < (s.size:Int):=by omega
   clear hj;obtain⟨x0,x1,x2,x3,x4⟩:=ej (aa dW);have ig:=ab (cm (w1.setRow w.heap.size (ai U)) w.heap.size (ai U) (ai U) _ _ (aa dW));have ph:=ab ((dH (w1.setRow w.heap.size (ai U)) w.heap.size (w.heap.size+1) (ai U) (by omega)).trans (aa ow))
   have aq:=ab (eL (aa aF) w.heap.size (ax _) (ai U));have kB:=ab ((aa lQ).setRow (g:=w.heap.size) (by omega) (ai U))
   have ub:=ab (cm _ (w.heap.size+1) _ #[.int .i64 0,.int .i64 0] _ _ (aa ph));have iq:=ab ((dH _ (w.heap.size+1) w.heap.size #[.int .i64 0,.int .i64 0] (by omega)).trans (aa ig))
   have dz:=ab (eL (aa aq) (w.heap.size+1) (by omega) #[.int .i64 0,.int .i64 0])
   have ii:=ab ((aa kB).setRow (g:=w.heap.size+1) (by omega) #[.int .i64 0,.int .i64 0])
   go_wp2_with (first
    | (refine aX rfl 27 _ _ rfl w.heap.size (ai U) rfl rfl 27 aB (by with_reducible exact aa HSTO) dK rfl (ik _) ?_)
    | (refine aX rfl 27 _ _ rfl w.heap.size (ai U) rfl rfl 27 (ai U) (by with_reducible exact aa dW) dK rfl (ik _) ?_)
    | (refine aX rfl 36 _ _ rfl (w.heap.size+1) #[.int .i64 0,.int .i64 0] rfl rfl 36 #[.int .i64 0,.int .i64 0] (by with_reducible exact aa ph) zi rfl (by simp[Value.oneCell']) ?_)
    | fail)
   (try go_frame)
   refine leaves_cons (f:=165) (args:= #[.pointer (some ⟨w.heap.size+1,0,none⟩)]) (by simp) (by simp[go_sem]) ?_
   refine(Jx _ _).mono ?_;rintro e u' w'' ⟨rfl,rfl,rfl⟩;refine⟨_,ET _ _ w.heap.size (w.heap.size+1) (ai U) #[.int .i64 0,.int .i64 0] rfl rfl (aa iq) (aa ub) rfl rfl,aa dz,fun p' j' h=> ?_,fun er' a' h=> ?_⟩
   ·rw[aa gA] at h
    injection h with h;injection h with h1 h2
    subst h1;exact⟨U,rfl,(aa HU).1,(aa ii).mono (by omega)⟩
   ·rw[aa gA] at h;cases h
open Go.RowKit
theorem ed {α β:Type} {r:Rd α} {f:α→Nat→Rd β} {x:Int × Nat} (h:bO r f=.error x):r=.error x∨∃a j,r=.ok (a,j)∧f a j=.error x:=by
 cases r with
 | ok v=>exact .inr ⟨v.1,v.2,rfl,h⟩
 | error e=>rw[jA] at h;injection h with h;exact .inl (by rw[h])
def Nz {α:Type} (s:ByteArray) (P:Nat→Rd α):Prop:=∀i er a,i≤s.size→P i=.error (er,a)→er≠0
theorem wW (s:ByteArray) (c:Nat):Nz s (eF s c):=fun i er a _ h=>by
 unfold eF at h;split at h
 ·cases h
 ·injection h with h;injection h with h _;omega
theorem Gi (s:ByteArray):Nz s (gR s):=fun i er a _ h=>by
 unfold gR at h;split at h
 ·split at h
  ·injection h with h;injection h with h _;omega
  ·cases h
 ·injection h with h;injection h with h _;omega
theorem nuP_nz (s:ByteArray):Nz s (mB s):=fun i er a _ h=>by
 unfold mB at h;split at h
 ·split at h
  ·injection h with h;injection h with h _;omega
  ·split at h
   ·injection h with h;injection h with h _;omega
   ·cases h
 ·injection h with h;injection h with h _;omega
theorem FZ (s:ByteArray):Nz s (fun i=>jV s i):=fun i er a _ h=>by
 have h':jV s i=.error (er,a):=h;unfold jV at h';split at h'
 ·cases h'
 ·injection h' with h';injection h' with h' _;omega
theorem fiP_nz (s:ByteArray):Nz s (lH s):=fun i er a hi h=>by
 unfold lH at h;split at h
 ·rcases ed h with h | ⟨t,j,h1,h⟩
  ·exact FZ s _ _ _ (eM s i hi).2 h
  ·split at h
   ·injection h with h;injection h with h _;omega
   ·cases h
 ·injection h with h;injection h with h _;omega
theorem E5 {d:Nat} {B:Nat→Rd PT} {s:ByteArray} (hB:eG s B) (hN:0 < d→Nz s B):Nz s (jD d B s):=fun i er a hi h=>by
 unfold jD at h;rcases ed h with h | ⟨u,j,h1,h⟩
 ·exact wW s 40 i er a hi h
 ·have k1:=nH s 40 (by decide) i u j hi h1
  split at h
  ·injection h with h;injection h with h _;omega
  ·rcases ed h with h | ⟨p,k,h2,h⟩
   ·exact hN (by omega) j er a k1.2 h
   ·have k2:=hB j p k k1.2 h2
    rcases ed h with h | ⟨u,m,h3,h⟩
    ·exact wW s 41 k er a k2.2 h
    ·cases h
theorem woP_nz {d:Nat} {B:Nat→Rd PT} {s:ByteArray} (hB:eG s B) (hN:0 < d→Nz s B) {i:Nat} {er:Int} {a:Nat} (hl:di (aj s i)=true) (h:fB d B s i=.error (er,a)):er≠0:=by
 have h0:=px hl;unfold fB at h;split at h
 ·injection h with h;injection h with h _;omega
 ·split at h
  ·rcases ed h with h | ⟨u,j,h1,h⟩
   ·exact E5 hB hN _ _ _ h0.2 h
   ·cases h
  ·split at h
   ·rcases ed h with h | ⟨u,j,h1,h⟩
    ·exact wW s 40 _ _ _ h0.2 h
    ·have k1:=nH s 40 (by decide) _ u j h0.2 h1
     rcases ed h with h | ⟨n,k,h2,h⟩
     ·exact nuP_nz s _ _ _ k1.2 h
     ·have k2:=zS s j n k k1.2 h2
      rcases ed h with h | ⟨u,m,h3,h⟩
      ·exact wW s 41 _ _ _ k2.2 h
      ·cases h
   ·split at h
    ·rcases ed h with h | ⟨u,j,h1,h⟩
     ·exact wW s 40 _ _ _ h0.2 h
     ·have k1:=nH s 40 (by decide) _ u j h0.2 h1
      rcases ed h with h | ⟨n,k,h2,h⟩
      ·exact fiP_nz s _ _ _ k1.2 h
      ·have k2:=zX s j n k k1.2 h2
       rcases ed h with h | ⟨u,m,h3,h⟩
       ·exact wW s 41 _ _ _ k2.2 h
       ·cases h
    ·cases h
theorem baP_nz {d:Nat} {B:Nat→Rd PT} {s:ByteArray} (hB:eG s B) (hN:0 < d→Nz s B):Nz s (jG d B s):=fun i er a hi h=>by
 have h0:=eM s i hi;unfold jG at h;split at h
 ·rcases ed h with h | ⟨u,j,h1,h⟩
  ·exact FZ s _ _ _ h0.2 h
  ·cases h
 ·split at h
  ·exact E5 hB hN _ _ _ h0.2 h
  ·have key:∀k,nx s i≠0→(bO (gR s (sk s i+1)) fun t e=>(.ok (aI k ⟨#[]⟩ 0 t [],e):Rd PT))=.error (er,a)→er≠0:=fun k hn h=>by
    have h3:=kU hn;rcases ed h with h | ⟨u,j,h1,h⟩
    ·exact Gi s _ _ _ (by omega) h
    ·cases h
   split at h
   ·exact key 23 (by omega) h
   ·split at h
    ·exact key 24 (by omega) h
    ·split at h
     ·rename_i hl
      exact woP_nz hB hN hl h
     ·injection h with h;injection h with h _;omega
theorem Gs (s:ByteArray):∀f p i er a,i≤s.size→s.size < i+f→iP s f p i=.error (er,a)→er≠0
 | 0,p,i,er,a,hi,hf,h=>by omega
 | f+1,p,i,er,a,hi,hf,h=>by
  have h0:=eM s i hi;rw[iP] at h
  by_cases q:iO (nx s i)=0
  ·rw[af q] at h;cases h
  ·rw[ac q] at h
   have hn:nx s i≠0:=fun z=>q (by rw[z];rfl)
   have h3:=kU hn;rcases ed h with h | ⟨t,e,h1,h⟩
   ·exact Gi s _ _ _ (by omega) h
   ·have h4:=v8 s (sk s i+1) t e (by omega) h1
    exact Gs s f _ e er a h4.2 (by omega) h
theorem F6 {d:Nat} {B:Nat→Rd PT} {s:ByteArray} (hB:eG s B) (hN:0 < d→Nz s B):Nz s (gQ d B s):=fun i er a hi h=>by
 unfold gQ at h;rcases ed h with h | ⟨p,j,h1,h⟩
 ·exact baP_nz hB hN _ _ _ hi h
 ·have k1:=Ad hB i p j hi h1
  exact Gs s _ _ _ _ _ k1.2 (by omega) h
theorem Ga {d:Nat} {B:Nat→Rd PT} {s:ByteArray} (hB:eG s B) (hN:0 < d→Nz s B):∀f l i er a,i≤s.size→s.size < i+f→lF d B s f l i=.error (er,a)→er≠0
 | 0,l,i,er,a,hi,hf,h=>by omega
 | f+1,l,i,er,a,hi,hf,h=>by
  have h0:=eM s i hi;rw[lF] at h
  by_cases q:kg (nx s i)=true
  ·rw[af q] at h
   rcases ed h with h | ⟨t,e,h1,h⟩
   ·exact F6 hB hN _ _ _ h0.2 h
   ·have h3:=vX hB _ t e h0.2 h1
    exact Ga hB hN f _ e er a h3.2 (by omega) h
  ·rw[ac q] at h;cases h
theorem F8 {d:Nat} {B:Nat→Rd PT} {s:ByteArray} (hB:eG s B) (hN:0 < d→Nz s B):Nz s (im d B s):=fun i er a hi h=>by
 unfold im at h;rcases ed h with h | ⟨p,j,h1,h⟩
 ·exact F6 hB hN _ _ _ hi h
 ·have k1:=vX hB i p j hi h1
  rcases ed h with h | ⟨l,e,h2,h⟩
  ·exact Ga hB hN _ _ _ _ _ k1.2 (by omega) h
  ·cases h
theorem GN {d:Nat} {B:Nat→Rd PT} {s:ByteArray} (hB:eG s B) (hN:0 < d→Nz s B):∀f l i er a,i≤s.size→s.size < i+f→lI d B s f l i=.error (er,a)→er≠0
 | 0,l,i,er,a,hi,hf,h=>by omega
 | f+1,l,i,er,a,hi,hf,h=>by
  have h0:=eM s i hi;rw[lI] at h
  by_cases q:nx s i=124
  ·rw[af q] at h
   have hn:=kU (s:=s) (i:=i) (by omega)
   rcases ed h with h | ⟨t,e,h1,h⟩
   ·exact F8 hB hN _ _ _ (by omega) h
   ·have h3:=vY hB _ t e (by omega) h1
    exact GN hB hN f _ e er a h3.2 (by omega) h
  ·rw[ac q] at h;cases h
theorem GL {d:Nat} {B:Nat→Rd PT} {s:ByteArray} (hB:eG s B) (hN:0 < d→Nz s B):Nz s (lX d B s):=fun i er a hi h=>by
 unfold lX at h;rcases ed h with h | ⟨p,j,h1,h⟩
 ·exact F8 hB hN _ _ _ hi h
 ·have k1:=vY hB i p j hi h1
  rcases ed h with h | ⟨l,e,h2,h⟩
  ·exact GN hB hN _ _ _ _ _ k1.2 (by omega) h
  ·cases h
theorem GP (s:ByteArray):∀d,Nz s (iY s d)
 | 0=>fun i er a hi h=>GL (d:=0) (B:=fun j=>.error (0,j)) (fun i x j _ h=>by cases h) (fun h=>absurd h (by decide)) i er a hi (by rw[iY] at h;exact h)
 | d+1=>fun i er a hi h=>GL (yp s d) (fun _=>GP s d) i er a hi (by rw[iY] at h;exact h)
theorem Cb {s:ByteArray} {er:Int} {a:Nat} (h:m5 s=.error (er,a)):er≠0:=by
 unfold m5 at h;rcases ed h with h | ⟨p,j,h1,h⟩
 ·exact GP s _ _ _ _ (cU _) h
 ·split at h
  ·injection h with h;injection h with h _;omega
  ·cases h
open Go.RowKit
theorem jj {w:World} {z:Nat} {a b:Value} (h:w.heap[z]? =some (.cells #[a,b] 36 (0,0))):w.cell? ⟨z,0,none⟩=some a∧w.cell? ⟨z,1,none⟩=some b:=by
 constructor <;> (rw[eX _ _ _ _ _ _ h];rfl)
theorem zE (tmps:Array Value) (W:World) (gp gf:Nat) (cs fs:Array Value) (h2:tmps.getD 2 undef=.pointer (some ⟨gp,0,none⟩)) (h3:tmps.getD 3 undef=.pointer (some ⟨gf,0,none⟩)) (hp:W.heap[gp]? =some (.cells cs 27 (0,0))) (hf:W.heap[gf]? =some (.cells fs 36 (0,0))) (kw:cs.size=5) (hfs:fs.size=2):
  (results Tryz.f135 tmps).run prog W=.ok (.tuple #[.agg cs,.agg fs]) W:=by
 have h2':tmps[2]?.getD undef=.pointer (some ⟨gp,0,none⟩):=by simpa using h2
 have h3':tmps[3]?.getD undef=.pointer (some ⟨gf,0,none⟩):=by simpa using h3
 have e1:=tn (P:=prog) W gp 27 27 cs (0,0) _ hp underlying27 rfl (by rw[kw];exact dK)
 have e2:=tn (P:=prog) W gf 36 36 fs (0,0) _ hf underlying36 rfl (by rw[hfs];exact zi)
 simp[results,Tryz.results135,h2',h3',asAddr,e1,e2]
def uK (w:World) (gp gf:Nat) (v0 v1 v2 v3 v4 x y:Value):World:=
 ((((((w.setCell ⟨gp,0,none⟩ v0).setCell ⟨gp,1,none⟩ v1).setCell ⟨gp,2,none⟩ v2).setCell ⟨gp,3,none⟩ v3).setCell ⟨gp,4,none⟩ v4).setCell ⟨gf,0,none⟩ x).setCell ⟨gf,1,none⟩ y
theorem Bn {w0 w:World} {gp gf:Nat} {u0 u1 u2 u3 u4 a b:Value} (hp:w.heap[gp]? =some (.cells #[u0,u1,u2,u3,u4] 27 (0,0))) (hf:w.heap[gf]? =some (.cells #[a,b] 36 (0,0))) (bo:gp≠gf) (hB:Below w0.heap.size w0 w) (h1:w0.heap.size≤gp) (h2:w0.heap.size≤gf) (v0 v1 v2 v3 v4 x y:Value):
  (uK w gp gf v0 v1 v2 v3 v4 x y).heap[gp]? =some (.cells #[v0,v1,v2,v3,v4] 27 (0,0))∧(uK w gp gf v0 v1 v2 v3 v4 x y).heap[gf]? =some (.cells #[x,y] 36 (0,0))∧Below w0.heap.size w0 (uK w gp gf v0 v1 v2 v3 v4 x y)∧(∀k,k≠gp→k≠gf→(uK w gp gf v0 v1 v2 v3 v4 x y).heap[k]? =w.heap[k]?)∧(uK w gp gf v0 v1 v2 v3 v4 x y).heap.size=w.heap.size:=by
 unfold uK;have e0:=fK w gp 0 _ _ v0 hp;have e1:=fK _ gp 1 _ _ v1 e0;have e2:=fK _ gp 2 _ _ v2 e1;have e3:=fK _ gp 3 _ _ v3 e2;have e4:=fK _ gp 4 _ _ v4 e3;have o:∀k,k≠gp→(((((w.setCell ⟨gp,0,none⟩ v0).setCell ⟨gp,1,none⟩ v1).setCell ⟨gp,2,none⟩ v2).setCell ⟨gp,3,none⟩ v3).setCell ⟨gp,4,none⟩ v4).heap[k]? =w.heap[k]? :=fun k hk=>by
  rw[dm _ ⟨gp,4,none⟩ k _ hk,dm _ ⟨gp,3,none⟩ k _ hk,dm _ ⟨gp,2,none⟩ k _ hk,dm _ ⟨gp,1,none⟩ k _ hk,dm _ ⟨gp,0,none⟩ k _ hk]
 have g0:=fK _ gf 0 _ _ x ((o gf (Ne.symm bo)).trans hf);have g1:=fK _ gf 1 _ _ y g0;refine⟨?_,g1, ?_,fun k hk jZ=> ?_,by simp⟩
 ·rw[dm _ ⟨gf,1,none⟩ gp _ bo,dm _ ⟨gf,0,none⟩ gp _ bo];exact e4
 ·exact ly (ly (ly (ly (ly (ly (ly hB h1 _ _) h1 _ _) h1 _ _) h1 _ _) h1 _ _) h2 _ _) h2 _ _
 ·rw[dm _ ⟨gf,1,none⟩ k _ jZ,dm _ ⟨gf,0,none⟩ k _ jZ];exact o k hk
def BG (s:ByteArray) (w:World) (e:Ending) (w':World):Prop:=
 Below w.heap.size w w'∧(∀p j,jq s=.ok (p,j)→∃U:PT,e=.returned (.tuple #[pv U,du 0 0])∧U.can=p∧bd w.heap.size w' U)∧(∀er a,jq s=.error (er,a)→e=.returned (.tuple #[.agg aB,du er a]))
theorem Bp {s:ByteArray} {w w':World} {er:Int} {a:Nat} {e:Ending} (h:jq s=.error (er,a)) (hb:Below w.heap.size w w') (he:e=.returned (.tuple #[.agg aB,du er a])):BG s w e w':=
 ⟨hb,fun p j q=>(by rw[h] at q;cases q),fun er' a' q=>by rw[h] at q;injection q with q;injection q with q1 q2;subst q1 q2;exact he⟩
theorem MM {s:ByteArray} {w w':World} {p:PT} {j:Nat} {e:Ending} {U:PT} (h:jq s=.ok (p,j)) (hb:Below w.heap.size w w') (he:e=.returned (.tuple #[pv U,du 0 0])) (hc:U.can=p) (hi:bd w.heap.size w' U):BG s w e w':=
 ⟨hb,fun p' j' q=>(by rw[h] at q;injection q with q;injection q with q1 q2;subst q1;exact⟨U,he,hc,hi⟩),fun er' a' q=>by rw[h] at q;cases q⟩
theorem Li (s:ByteArray) (w:World) (hS:dI w):Calls prog 135 #[.string s] w fun e w'=>BG s w e w':=by
 obtain⟨w0,gh⟩:∃w0,w0=(w.alloc (.cells aB 27)).alloc (.cells #[.int .i64 0,.int .i64 0] 36):=⟨_,rfl⟩;have aZ:Below w.heap.size w w0:=by rw[gh];exact(ba _).alloc (by simp) _
 have ay:w0.heap.size=w.heap.size+1+1:=by rw[gh];simp
 have qP:w0.heap[w.heap.size+1]? =some (.cells #[.int .i64 0,.int .i64 0] 36 (0,0)):=by rw[gh];exact aw (by simp)
 have hp0:w0.heap[w.heap.size]? =some (.cells aB 27 (0,0)):=by rw[gh];exact bL (by simp) oE
 have HW:=ab gh;have H0:=ab (And.intro aZ (And.intro qP hp0));have ss:=ab (fun h=>Is s w0 h (hS.later aZ))
 clear gh aZ qP hp0 hS;have vG:Hid (jq s=if 65536 < s.size then .error (4,0) else bO (m5 s) fun p j=>if p.fits=true then .ok (p,j) else .error (4,0)):=ab (rfl)
 have rf:=ab (fun er a h=>Cb (s:=s) (er:=er) (a:=a) h)
 by_cases hq:65536 < s.size
 ·have HE:Hid (jq s=.error (4,0)):=ab (by rw[aa vG,af hq])
  have hg:(65536:Int) < (s.size:Int):=by omega
  clear hq ss vG rf;go_enter func135,ntmps135;go_wp2_with fail;exact ck (zE _ _ w.heap.size (w.heap.size+1) aB #[.int .i64 4,.int .i64 0] rfl rfl (bL (by simp) oE) (aw (by simp)) rfl rfl) rfl (Bp (aa HE) ((ba _).alloc (by simp) _) rfl)
 ·have HR:=ab (aa ss (by omega))
  have hg:¬(65536:Int) < (s.size:Int):=by omega
  have HRQ:Hid (jq s=bO (m5 s) fun p j=>if p.fits=true then .ok (p,j) else .error (4,0)):=ab (by rw[aa vG,ac hq])
  clear hq ss vG;obtain⟨RP,hRP⟩:∃RP,jq s=RP:=⟨_,rfl⟩;have vG:=ab hRP;rw[hRP] at HRQ;clear hRP;obtain⟨R,hR⟩:∃R,m5 s=R:=⟨_,rfl⟩;rw[hR] at HR HRQ rf;clear hR;rcases R with ⟨er,a⟩ | ⟨p,j⟩
  ·have HE:Hid (RP=.error (er,a)):=ab (by rw[aa HRQ,jA])
   have bo:=aa rf er a rfl;have hne2:(er==0)=false:=bn bo;clear rf bo;go_enter func135,ntmps135;go_wp2_with fail;rw[show (w.alloc (.cells #[.int .i64 0,.string ⟨#[]⟩,.int .i64 0,.string ⟨#[]⟩,.slice none 0 0] 27)).alloc (.cells #[.int .i64 0,.int .i64 0] 36)=w0 from (aa HW).symm];refine(aa HR).mono ?_;rintro e w1 ⟨hb1, -,h1⟩;obtain⟨V,rfl⟩:=h1 er a rfl;have fd:=ab (am (aa H0).2.1 hb1);have cf:=ab (am (aa H0).2.2 hb1);have bf:=ab (ap (aa H0).1 hb1);clear hb1 h1;obtain⟨w2,gH⟩:∃w2,w2=(w1.alloc (.cells (ai V) 27)).alloc (.cells #[.int .i64 er,.int .i64 (a:Int)] 36):=⟨_,rfl⟩;have hb2:Below w1.heap.size w1 w2:=by rw[gH];exact(ba _).alloc (by simp) _
   have gW:w.heap.size+1 < w1.heap.size:=by have:=(bC.1 (aa fd)).1;omega
   have fk:w2.heap[w1.heap.size+1]? =some (.cells #[.int .i64 er,.int .i64 (a:Int)] 36 (0,0)):=by rw[gH];exact aw (by simp)
   have ow:=ab (am (aa fd) hb2);have dW:=ab (am (aa cf) hb2);have aF:=ab (ap (aa bf) hb2);have H7:=ab (Bn (aa dW) (aa ow) (by omega) (aa aF) (ax _) (by omega) (.int .i64 0) (.string ⟨#[]⟩) (.int .i64 0) (.string ⟨#[]⟩) (.slice none 0 0) (.int .i64 er) (.int .i64 (a:Int)))
   obtain⟨y0,y1⟩:=jj fk;have gL:=ab gH;clear gH hb2 fk;unfold pv du;go_wp2_with fail;rw[show (w1.alloc (.cells #[.int .i64 V.k,.string V.t,.int .i64 V.n,.string V.nm,.slice V.xa V.len V.cap] 27)).alloc (.cells #[.int .i64 er,.int .i64 (a:Int)] 36)=w2 from (aa gL).symm];obtain⟨p0,p1,p2,p3,p4⟩:=ej (show w2.heap[w.heap.size]? =_ from aa dW);obtain⟨f0,f1⟩:=jj (show w2.heap[w.heap.size+1]? =_ from aa ow);have fp:=fun k=>cT w2 w.heap.size k _ _ (aa dW)
   have ff:=fun k=>cT w2 (w.heap.size+1) k _ _ (aa ow)
   have n1:¬w.heap.size=w1.heap.size+1:=by omega
   have n2:¬w1.heap.size+1=w.heap.size:=by omega
   have n3:¬w.heap.size+1=w1.heap.size+1:=by omega
   have n4:¬w1.heap.size+1=w.heap.size+1:=by omega
   go_region;clear p0 p1 p2 p3 p4 f0 f1 fp ff n1 n2 n3 n4 y0 y1;rw[show ((((((w2.setCell ⟨w.heap.size,0,none⟩ (.int .i64 0)).setCell ⟨w.heap.size,1,none⟩ (.string ⟨#[]⟩)).setCell ⟨w.heap.size,2,none⟩ (.int .i64 0)).setCell ⟨w.heap.size,3,none⟩ (.string ⟨#[]⟩)).setCell ⟨w.heap.size,4,none⟩ (.slice none 0 0)).setCell ⟨w.heap.size+1,0,none⟩ (.int .i64 er)).setCell ⟨w.heap.size+1,1,none⟩ (.int .i64 (a:Int))=uK w2 w.heap.size (w.heap.size+1) (.int .i64 0) (.string ⟨#[]⟩) (.int .i64 0) (.string ⟨#[]⟩) (.slice none 0 0) (.int .i64 er) (.int .i64 (a:Int)) from rfl];generalize uK w2 w.heap.size (w.heap.size+1) (.int .i64 0) (.string ⟨#[]⟩) (.int .i64 0) (.string ⟨#[]⟩) (.slice none 0 0) (.int .i64 er) (.int .i64 (a:Int))=W7 at *;go_wp2_with fail;exact ck (zE _ _ w.heap.size (w.heap.size+1) aB #[.int .i64 er,.int .i64 (a:Int)] rfl rfl (aa H7).1 (aa H7).2.1 rfl rfl) rfl (Bp ((aa vG).trans (aa HE)) (aa H7).2.2.1.drew rfl)
  ·clear rf
   go_enter func135,ntmps135;go_wp2_with fail;rw[show (w.alloc (.cells #[.int .i64 0,.string ⟨#[]⟩,.int .i64 0,.string ⟨#[]⟩,.slice none 0 0] 27)).alloc (.cells #[.int .i64 0,.int .i64 0] 36)=w0 from (aa HW).symm];refine(aa HR).mono ?_;rintro e w1 ⟨hb1,h1, -⟩;obtain⟨U,rfl,hU,hUi⟩:=h1 p j rfl;have fd:=ab (am (aa H0).2.1 hb1);have cf:=ab (am (aa H0).2.2 hb1);have bf:=ab (ap (aa H0).1 hb1);have gW:w.heap.size+1 < w1.heap.size:=by have:=(bC.1 (aa fd)).1;omega
   obtain⟨w2,gH⟩:∃w2,w2=(w1.alloc (.cells (ai U) 27)).alloc (.cells #[.int .i64 0,.int .i64 0] 36):=⟨_,rfl⟩;have hb2:Below w1.heap.size w1 w2:=by rw[gH];exact(ba _).alloc (by simp) _
   have fk:w2.heap[w1.heap.size]? =some (.cells (ai U) 27 (0,0)):=by rw[gH];exact bL (by simp) (aw rfl)
   have jZ:w2.heap[w1.heap.size+1]? =some (.cells #[.int .i64 0,.int .i64 0] 36 (0,0)):=by rw[gH];exact aw (by simp)
   have lr:=ab (D0 U w2 (PT.In.later hb2 hUi.here));have ow:=ab (am (aa fd) hb2);have dW:=ab (am (aa cf) hb2);have aF:=ab (ap (aa bf) hb2);have tS:=ab (hUi.below hb2);have HUC:=ab hU;have qf:=ab fk;obtain⟨k0,k1⟩:=jj jZ;obtain⟨g0,g1,g2,g3,g4⟩:=ej fk;have gL:=ab gH;clear gH hb2 fk hb1 h1 hU hUi jZ;unfold pv at lr ⊢;unfold du;have HFI:Hid (p.fits=U.fits):=ab (by rw[←aa HUC];unfold PT.fits;rw[Ac,Ab])
   have HSD:Hid (uu U=if U.fits then .tuple #[.int .i64 (U.cnt:Int),.int .i64 (U.dep:Int),.int .i64 0] else .tuple #[.int .i64 0,.int .i64 0,.int .i64 4]):=ab (rfl);generalize uu U=SD at *;generalize U.fits=FT at *;clear k0 k1 g0 g1 g2 g3 g4;go_wp2_with fail;rw[show (w1.alloc (.cells #[.int .i64 U.k,.string U.t,.int .i64 U.n,.string U.nm,.slice U.xa U.len U.cap] 27)).alloc (.cells #[.int .i64 0,.int .i64 0] 36)=w2 from (aa gL).symm];refine(aa lr).mono ?_;rintro e w3 ⟨rfl,hb3⟩;have ph:=ab (am (aa ow) hb3);have ig:=ab (am (aa dW) hb3);have aq:=ab (ap (aa aF) hb3);have HU3:=ab ((aa tS).below hb3);obtain⟨g0,g1,g2,g3,g4⟩:=ej (am (aa qf) hb3);obtain⟨p0,p1,p2,p3,p4⟩:=ej (aa ig);obtain⟨f0,f1⟩:=jj (aa ph);have fp:=fun k=>cT w3 w.heap.size k _ _ (aa ig)
   have ff:=fun k=>cT w3 (w.heap.size+1) k _ _ (aa ph)
   clear hb3
   cases FT
   ·have HSE:Hid (SD=.tuple #[.int .i64 0,.int .i64 0,.int .i64 4]):=ab (by rw[aa HSD];rfl)
    rw[aa HSE];have HE:Hid (RP=.error (4,0)):=ab (by rw[aa HRQ,dE,aa HFI,ac (by decide)])
    have H7:=ab (Bn (aa ig) (aa ph) (by omega) (aa aq) (ax _) (by omega) (.int .i64 0) (.string ⟨#[]⟩) (.int .i64 0) (.string ⟨#[]⟩) (.slice none 0 0) (.int .i64 4) (.int .i64 0))
    go_wp2_with fail;exact ck (zE _ _ w.heap.size (w.heap.size+1) aB #[.int .i64 4,.int .i64 0] rfl rfl (aa H7).1 (aa H7).2.1 rfl rfl) rfl (Bp ((aa vG).trans (aa HE)) (aa H7).2.2.1 rfl)
   ·have HSE:Hid (SD=.tuple #[.int .i64 (U.cnt:Int),.int .i64 (U.dep:Int),.int .i64 0]):=ab (by rw[aa HSD];rfl)
    rw[aa HSE];have HE:Hid (RP=.ok (p,j)):=ab (by rw[aa HRQ,dE,aa HFI,af rfl])
    have H7:=ab (Bn (aa ig) (aa ph) (by omega) (aa aq) (ax _) (by omega) (.int .i64 U.k) (.string U.t) (.int .i64 U.n) (.string U.nm) (.slice U.xa U.len U.cap) (.int .i64 0) (.int .i64 0))
    go_wp2_with fail;exact ck (zE _ _ w.heap.size (w.heap.size+1) (ai U) #[.int .i64 0,.int .i64 0] rfl rfl (aa H7).1 (aa H7).2.1 rfl rfl) rfl (MM ((aa vG).trans (aa HE)) (aa H7).2.2.1 rfl (aa HUC) (((aa HU3).step (Nat.le_of_eq (aa H7).2.2.2.2.symm) (fun i h1 _=>(aa H7).2.2.2.1 i (by omega) (by omega))).mono (by omega)))
open Go.RowKit
def Rq (k:Int) (t:ByteArray) (n:Int) (nm:ByteArray) (len:Nat):Prop:=
 (1≤k∧k≤24)∧(aE k=1→t.size≤65536∧(k≠1→t.size≠0))∧(aE k=2→0≤n∧n≤65536)∧(aE k=3→bp nm=true)∧co k≤len∧((k=18∨k=19)∨(len:Int)≤cD k)∧
 (aE k≠1→t=⟨#[]⟩)∧(aE k≠2→n=0)∧(aE k≠3→nm=⟨#[]⟩)
def PT.qq:PT→Prop
 | .node k t n nm _ _ _ len _ kids=>Rq k t n nm len∧∀i,PT.qq (kids i)
theorem qq_mk {k:Int} {t:ByteArray} {n:Int} {nm:ByteArray} {l:List PT} (h:Rq k t n nm l.length) (hl:∀x ∈ l,x.qq):(aI k t n nm l).qq:=⟨h,fun i=>hl _ (qz i.isLt)⟩
theorem MQ {T:PT} (h:T.qq):Rq T.k T.t T.n T.nm T.len:=by cases T;exact h.1
theorem qq_kid {T:PT} (h:T.qq) {i:Nat} (hi:i < T.len):(T.kid i).qq:=by rw[PT.kid_at hi];cases T;exact h.2 ⟨i,hi⟩
def Qp (p:PT):Prop:=p.qq∧p.bar=p
theorem sQ {k:Int} {t:ByteArray} {n:Int} {nm:ByteArray} {l:List PT} (h:Rq k t n nm l.length) (hl:∀x ∈ l,Qp x):Qp (aI k t n nm l):=by
 refine⟨qq_mk h fun x hx=>(hl x hx).1, ?_⟩
 obtain⟨-, -, -, -, -, -,b1,b2,b3⟩:=h;rw[PT.bar_eq,wZ];have e1:(if aE (aI k t n nm l).k=1 then (aI k t n nm l).t else ⟨#[]⟩)=t:=by
  show (if aE k=1 then t else ⟨#[]⟩)=t;split
  ·rfl
  ·rename_i q;exact(b1 q).symm
 have e2:(if aE (aI k t n nm l).k=2 then (aI k t n nm l).n else 0)=n:=by
  show (if aE k=2 then n else 0)=n;split
  ·rfl
  ·rename_i q;exact(b2 q).symm
 have e3:(if aE (aI k t n nm l).k=3 then (aI k t n nm l).nm else ⟨#[]⟩)=nm:=by
  show (if aE k=3 then nm else ⟨#[]⟩)=nm;split
  ·rfl
  ·rename_i q;exact(b3 q).symm
 rw[e1,e2,e3];have e4:l.map PT.bar=l:=(uS fun x hx=>(hl x hx).2).trans (List.map_id _)
 rw[e4];rfl
theorem qq_bad:∀T:PT,T.qq→T.cnt≤4096→T.bad=0:=PT.ind fun T ih hq hc=>by
 obtain⟨h1,h2,h3,h4,h5,h6, -, -, -⟩:=MQ hq;have hl:=T.len_lt;have he:bI T=0:=by
  unfold bI;rw[ac (by omega),ac (by rintro⟨a,b⟩;have:=(h2 a).1;omega),ac (by rintro⟨a,b,c⟩;exact(h2 a).2 b c),ac (by rintro⟨a,b⟩;have:=h3 a;omega),ac (by rintro⟨a,b⟩;rw[h4 a] at b;cases b),ac]
  rintro(a | a)
  ·omega
  ·rcases h6 with h6 | h6
   ·have:cD T.k=4096:=by unfold cD;rw[af h6]
    omega
   ·omega
 rw[T.bad_eq,af he];have hk:∀i,i < T.len→(T.kid i).bad=0:=fun i hi=>ih i hi (qq_kid hq hi) (by
  have h7:eU (fun i=>(T.kid i).cnt) (i+1)≤eU (fun i=>(T.kid i).cnt) T.len:=wM _ hi
  have h8:eU (fun i=>(T.kid i).cnt) (i+1)=eU (fun i=>(T.kid i).cnt) i+(T.kid i).cnt:=rfl
  have:=T.cnt_eq;omega)
 have:∀m,m≤T.len→fT (fun i=>(T.kid i).bad) m=0:=by
  intro m
  induction m with
  | zero=>intro _;rfl
  | succ m ihm=>intro hm;rw[fT,af (ihm (by omega)),hk m (by omega)]
 exact this T.len (ax _)
theorem Bg {s:ByteArray} {i j:Nat} {t:ByteArray} (h:gR s i=.ok (t,j)):bp t=true:=by
 unfold gR at h;split at h
 ·rename_i hl
  split at h
  ·cases h
  ·rename_i oR
   injection h with h;injection h with h _
   have hE:=px (s:=s) (j:=sk s i) hl;have ay:=Bu s (Nat.le_of_lt hE.1) hE.2;rw[←h];have hget:∀k,k < bX s (sk s i) - sk s i→aj (s.extract (sk s i) (bX s (sk s i))) k=aj s (sk s i+k):=fun k hk=>by
    unfold aj;rw[List.getD,List.getD,AC,Array.toList_extract,List.extract,List.getElem?_take,af hk,List.getElem?_drop]
   rw[Ej,ay];have hw:∀k,k≤bX s (sk s i) - sk s i→mV (s.extract (sk s i) (bX s (sk s i))) k=true:=by
    intro k
    induction k with
    | zero=>intro _;rfl
    | succ k ih=>
     intro hk;rw[mV,ih (by omega),hget k (by omega),Bool.true_and]
     exact E3 (p:=dF) (sk s i+k) (by omega) (show sk s i+k < bX s (sk s i) by omega)
   rw[hw _ (ax _),hget 0 (by omega),Nat.add_zero,eW (by omega),eW (by omega)]
   show (true && true && di (nx s i) && true)=true;rw[hl];rfl
 ·cases h
theorem DP (t:ByteArray):∀n,jE t n≠0→aQ (jE t n)=t∧jE t n≤n
 | 0,h=>absurd rfl h
 | n+1,h=>by
  rw[jE] at h ⊢
  by_cases q:jE t n≠0
  ·rw[af q] at h ⊢
   have:=DP t n q;exact⟨this.1,by omega⟩
  ·rw[ac q] at h ⊢
   by_cases r:aQ (n+1)=t
   ·rw[af r];exact⟨r,ax _⟩
   ·rw[ac r] at h;exact absurd rfl h
theorem Ni {t:ByteArray} {N:Nat} (hN:N≤24) (h:jE t N≠0) (ht:t.size≠0):(2≤jE t N∧jE t N≤17)∨jE t N=20:=by
 obtain⟨h1,h2⟩:=DP t N h;have key:∀k:Fin 25,(aQ k.val).size≠0→(2≤k.val∧k.val≤17)∨k.val=20:=by decide+kernel
 generalize jE t N=K at *;exact key ⟨K,by omega⟩ (by show (aQ K).size≠0;rw[h1];exact ht)
theorem LO {t:ByteArray} (h:iL t≠0) (ht:t.size≠0):(2≤iL t∧iL t≤17)∨iL t=20:=by
 obtain⟨N,hN⟩:∃N,N=24:=⟨_,rfl⟩;have e:iL t=jE t N:=by rw[hN];rfl
 rw[e] at h ⊢;exact Ni (by omega) h ht
theorem LZ {s:ByteArray} {i j:Nat} {t:ByteArray} (h:lH s i=.ok (t,j)):t.size≠0:=by
 unfold lH at h;split at h
 ·obtain⟨u,e,h1,h2⟩:=ec h
  split at h2
  ·cases h2
  ·rename_i q
   injection h2 with h2;injection h2 with h2 _
   subst h2;exact q
 ·cases h
def nU (P:Nat→Rd PT):Prop:=∀i p j,P i=.ok (p,j)→Qp p
theorem D8 {d:Nat} {B:Nat→Rd PT} {s:ByteArray} (hB:nU B):nU (jD d B s):=fun i p j h=>by
 unfold jD at h;obtain⟨_,a,h1,h2⟩:=ec h;split at h2
 ·cases h2
 ·obtain⟨q,b,h4,h5⟩:=ec h2
  obtain⟨_,c,h6,h7⟩:=ec h5;injection h7 with h7;injection h7 with h7 _
  subst h7;exact hB a q b h4
theorem Mt {d:Nat} {B:Nat→Rd PT} {s:ByteArray} (hs:s.size≤65536) (hB:nU B) {i:Nat} {p:PT} {j:Nat} (hl:di (aj s i)=true) (h:fB d B s i=.ok (p,j)):Qp p:=by
 have hE:=px hl;have ay:=Bu s (Nat.le_of_lt hE.1) hE.2;unfold fB at h;obtain⟨K,hK⟩:∃K,iL (s.extract i (bX s i))=K:=⟨_,rfl⟩;have mL:=fun (q:K≠0)=>LO (t:=s.extract i (bX s i)) (by rw[hK];exact q) (by omega)
 rw[hK] at h mL;split at h
 ·cases h
 ·rename_i h0
  have mL:=mL h0;split at h
  ·obtain⟨q,m,h1,h2⟩:=ec h
   injection h2 with h2;injection h2 with h2 _
   subst h2;refine sQ (show Rq 20 ⟨#[]⟩ 0 ⟨#[]⟩ 1 from ⟨by decide,fun q=>absurd q (by decide),fun q=>absurd q (by decide),fun q=>absurd q (by decide),by decide,.inr (by decide),fun _=>rfl,fun _=>rfl,fun _=>rfl⟩) fun x hx=> ?_
   rw[fE] at hx;subst hx;exact D8 hB _ _ _ h1
  ·rename_i ju
   have h17:2≤K∧K≤17:=by omega
   have gX:cD (K:Int)=0∧co (K:Int)=0:=by
    constructor
    ·unfold cD;rw[ac (by omega),ac (by omega)]
    ·unfold co;rw[ac (by omega),ac (by omega)]
   split at h
   ·rename_i hh
    obtain⟨_,a,h1,h2⟩:=ec h;obtain⟨n,b,h3,h4⟩:=ec h2;obtain⟨_,c,h5,h6⟩:=ec h4;injection h6 with h6;injection h6 with h6 _
    subst h6;have hn:=Gf h3;exact sQ ⟨by omega,fun q=>absurd (hh.symm.trans q) (by decide),fun _=>by omega,fun q=>absurd (hh.symm.trans q) (by decide),by rw[gX.2];decide,.inr (by rw[gX.1];decide),fun _=>rfl,fun q=>absurd hh q,fun _=>rfl⟩ (by simp)
   ·split at h
    ·rename_i mM hh
     obtain⟨_,a,h1,h2⟩:=ec h;obtain⟨t,b,h3,h4⟩:=ec h2;obtain⟨_,c,h5,h6⟩:=ec h4;injection h6 with h6;injection h6 with h6 _
     subst h6;exact sQ ⟨by omega,fun _=>⟨Fq hs h3,fun _=>LZ h3⟩,fun q=>absurd q mM,fun q=>absurd (hh.symm.trans q) (by decide),by rw[gX.2];decide,.inr (by rw[gX.1];decide),fun q=>absurd hh q,fun _=>rfl,fun _=>rfl⟩ (by simp)
    ·rename_i mM oc
     injection h with h;injection h with h _
     subst h;have hh3:aE (K:Int)≠3:=by
      intro q;unfold aE at q;split at q
      ·omega
      ·split at q
       ·omega
       ·rw[ac (by omega)] at q;omega
     exact sQ ⟨by omega,fun q=>absurd q oc,fun q=>absurd q mM,fun q=>absurd q hh3,by rw[gX.2];decide,.inr (by rw[gX.1];decide),fun _=>rfl,fun _=>rfl,fun _=>rfl⟩ (by simp)
theorem BU {k:Int} {t:ByteArray} {l:Nat} (hk:(k=23∨k=24)∧l=0∨(k=21∨k=22)∧l=1) (ht:bp t=true):Rq k ⟨#[]⟩ 0 t l:=by
 have hh:aE k=3:=by unfold aE;rw[ac (by omega),ac (by omega),af (by omega)]
 refine⟨by omega,fun q=>absurd (hh.symm.trans q) (by decide),fun q=>absurd (hh.symm.trans q) (by decide),fun _=>ht, ?_,.inr ?_,fun _=>rfl,fun _=>rfl,fun q=>absurd hh q⟩
 ·unfold co
  rcases hk with ⟨_,rfl⟩ | ⟨_,rfl⟩
  ·rw[ac (by omega),ac (by omega)];decide
  ·rw[ac (by omega),af (by omega)];decide
 ·unfold cD
  rcases hk with ⟨_,rfl⟩ | ⟨_,rfl⟩
  ·rw[ac (by omega),ac (by omega)];decide
  ·rw[ac (by omega),af (by omega)];decide
theorem NK {d:Nat} {B:Nat→Rd PT} {s:ByteArray} (hs:s.size≤65536) (hB:nU B):nU (jG d B s):=fun i p j h=>by
 unfold jG at h;split at h
 ·obtain⟨t,e,h1,h2⟩:=ec h
  injection h2 with h2;injection h2 with h2 _
  subst h2;have ht:=Cd hs h1;exact sQ ⟨by decide,fun _=>⟨ht,fun q=>absurd rfl q⟩,fun q=>absurd q (by decide),fun q=>absurd q (by decide),by decide,.inr (by decide),fun q=>absurd rfl q,fun _=>rfl,fun _=>rfl⟩ (by simp)
 ·split at h
  ·exact D8 hB _ _ _ h
  ·split at h
   ·obtain⟨t,e,h1,h2⟩:=ec h
    injection h2 with h2;injection h2 with h2 _
    subst h2;exact sQ (BU (.inl ⟨.inl rfl,rfl⟩) (Bg h1)) (by simp)
   ·split at h
    ·obtain⟨t,e,h1,h2⟩:=ec h
     injection h2 with h2;injection h2 with h2 _
     subst h2;exact sQ (BU (.inl ⟨.inr rfl,rfl⟩) (Bg h1)) (by simp)
    ·split at h
     ·rename_i hl
      exact Mt hs hB hl h
     ·cases h
theorem Fm (s:ByteArray):∀f q i p j,Qp q→iP s f q i=.ok (p,j)→Qp p
 | 0,q,i,p,j,_,h=>by cases h
 | f+1,q,i,p,j,hq,h=>by
  rw[iP] at h
  by_cases c:iO (nx s i)=0
  ·rw[af c] at h
   injection h with h;injection h with h _
   subst h;exact hq
  ·rw[ac c] at h
   obtain⟨t,e,h1,h2⟩:=ec h;refine Fm s f _ e p j (sQ (BU (.inr ⟨?_,rfl⟩) (Bg h1)) fun x hx=>by rw[fE] at hx;subst hx;exact hq) h2
   unfold iO at c ⊢;split
   ·exact .inl rfl
   ·rename_i q1
    rw[ac q1] at c;split
    ·exact .inr rfl
    ·rename_i q2;rw[ac q2] at c;exact absurd rfl c
theorem EZ {d:Nat} {B:Nat→Rd PT} {s:ByteArray} (hs:s.size≤65536) (hB:nU B):nU (gQ d B s):=fun i p j h=>by
 unfold gQ at h;obtain⟨q,e,h1,h2⟩:=ec h;exact Fm s _ q e p j (NK hs hB i q e h1) h2
theorem EL {k:Int} (hk:k=18∨k=19) {l:List PT} (hl:l≠[]) (h:∀x ∈ l,Qp x):Qp (iw k l):=by
 match l,hl,h with
 | [x],_,h=>exact h x (by simp)
 | x::y::l,_,h=>
  have hh:aE k=0:=by unfold aE;rw[ac (by omega),ac (by omega),ac (by omega)]
  have eI:co k=2:=by unfold co;rw[af hk]
  exact sQ ⟨by omega,fun q=>absurd (hh.symm.trans q) (by decide),fun q=>absurd (hh.symm.trans q) (by decide),fun q=>absurd (hh.symm.trans q) (by decide),by rw[eI,List.length_cons,List.length_cons];omega,.inl hk,fun _=>rfl,fun _=>rfl,fun _=>rfl⟩ h
theorem E1 {d:Nat} {B:Nat→Rd PT} {s:ByteArray} (hs:s.size≤65536) (hB:nU B):∀f l i r j,l≠[]→(∀x ∈ l,Qp x)→lF d B s f l i=.ok (r,j)→r≠[]∧∀x ∈ r,Qp x
 | 0,l,i,r,j,_,_,h=>by cases h
 | f+1,l,i,r,j,hn,hl,h=>by
  rw[lF] at h
  by_cases c:kg (nx s i)=true
  ·rw[af c] at h
   obtain⟨t,e,h1,h2⟩:=ec h;exact E1 hs hB f _ e r j (by simp) (fun x hx=>by
    rcases rR.1 hx with hx | hx
    ·exact hl x hx
    ·rw[fE] at hx;subst hx;exact EZ hs hB _ _ _ h1) h2
  ·rw[ac c] at h
   injection h with h;injection h with h _
   subst h;exact⟨hn,hl⟩
theorem E0 {d:Nat} {B:Nat→Rd PT} {s:ByteArray} (hs:s.size≤65536) (hB:nU B):nU (im d B s):=fun i p j h=>by
 unfold im at h;obtain⟨q,e,h1,h2⟩:=ec h;obtain⟨l,m,h3,h4⟩:=ec h2;injection h4 with h4;injection h4 with h4 _
 subst h4;obtain⟨a,b⟩:=E1 hs hB _ _ _ _ _ (by simp) (fun x hx=>by rw[fE] at hx;subst hx;exact EZ hs hB _ _ _ h1) h3
 exact EL (.inl rfl) a b
theorem FP {d:Nat} {B:Nat→Rd PT} {s:ByteArray} (hs:s.size≤65536) (hB:nU B):∀f l i r j,l≠[]→(∀x ∈ l,Qp x)→lI d B s f l i=.ok (r,j)→r≠[]∧∀x ∈ r,Qp x
 | 0,l,i,r,j,_,_,h=>by cases h
 | f+1,l,i,r,j,hn,hl,h=>by
  rw[lI] at h
  by_cases c:nx s i=124
  ·rw[af c] at h
   obtain⟨t,e,h1,h2⟩:=ec h;exact FP hs hB f _ e r j (by simp) (fun x hx=>by
    rcases rR.1 hx with hx | hx
    ·exact hl x hx
    ·rw[fE] at hx;subst hx;exact E0 hs hB _ _ _ h1) h2
  ·rw[ac c] at h
   injection h with h;injection h with h _
   subst h;exact⟨hn,hl⟩
theorem FN {d:Nat} {B:Nat→Rd PT} {s:ByteArray} (hs:s.size≤65536) (hB:nU B):nU (lX d B s):=fun i p j h=>by
 unfold lX at h;obtain⟨q,e,h1,h2⟩:=ec h;obtain⟨l,m,h3,h4⟩:=ec h2;injection h4 with h4;injection h4 with h4 _
 subst h4;obtain⟨a,b⟩:=FP hs hB _ _ _ _ _ (by simp) (fun x hx=>by rw[fE] at hx;subst hx;exact E0 hs hB _ _ _ h1) h3
 exact EL (.inr rfl) a b
theorem FR {s:ByteArray} (hs:s.size≤65536):∀d,nU (iY s d)
 | 0=>fun i p j h=>FN (d:=0) (B:=fun j=>.error (0,j)) hs (fun i p j h=>by cases h) i p j (by rw[iY] at h;exact h)
 | d+1=>fun i p j h=>FN hs (FR hs d) i p j (by rw[iY] at h;exact h)
theorem I0 {s:ByteArray} {p:PT} {j:Nat} (h:jq s=.ok (p,j)):p.wrong=0∧p.bar=p:=by
 unfold jq at h;split at h
 ·cases h
 ·rename_i hs
  obtain⟨q,e,h1,h2⟩:=ec h;split at h2
  ·rename_i hf
   injection h2 with h2;injection h2 with h2 _
   subst h2;unfold m5 at h1;obtain⟨q,m,h3,h4⟩:=ec h1;split at h4
   ·cases h4
   ·injection h4 with h4;injection h4 with h4 _
    subst h4;have hq:=FR (by omega) _ _ _ _ h3
    refine⟨?_,hq.2⟩;unfold PT.wrong;rw[af hf];unfold PT.fits at hf;rw[tj] at hf;exact qq_bad _ hq.1 (mG hf.1)
  ·cases h2
end Go.Proofs.YtlmnjbipfacniaaGreatDoor
