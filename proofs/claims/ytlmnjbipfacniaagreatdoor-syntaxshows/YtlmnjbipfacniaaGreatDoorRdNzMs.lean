/- The reader of patterns: what is thrown is caught. What is wr -/
import Derived.Test.YtlmnjbipfacniaaGreatDoorRdLMs
import Derived.Defers
import Derived.Test.YtlmnjbipfacniaaGreatDoorRdPlainMs
set_option maxRecDepth 100000
set_option maxHeartbeats 4000000
namespace Go.Proofs.YtlmnjbipfacniaaGreatDoor
open Go.Proofs.Tryz
open Go.RowKit
theorem DE:∀d,d≤200→oR 166 d (fun s=>jL s d)
 | 0,h=>by
  have hB:∀s:ByteArray,eA s (fun j=>(.error (0,j):Rd PT)):=fun s i x j _ h=>by cases h
  exact Es hB (C1 hB (Du hB (Er (CG h hB (fun h=>absurd h (by decide))))))
 | d+1,h=>by
  have hB:∀s:ByteArray,eA s (jL s d):=fun s=>yj s d
  exact Es hB (C1 hB (Du hB (Er (CG h hB (fun _=>DE d (by omega))))))
theorem zc:(prog.info? 36).map (·.size)=some 2:=by kernel_rfl
theorem GQ (g:Nat) (er:Int) (i:Nat) (old:Array Value) (older:List PanicEntry) (w:World) (hg:w.heap[g]? =some (.cells old 36 (0,0))) (ho:old.size=2):
  CallsD prog 165 #[.pointer (some ⟨g,0,none⟩)] (.panicking ({v:=.iface 36 (cY er i),recovered:=false}::older)) w fun e u' w'=>
   e=.returned (.tuple #[])∧u'=.panicking ({v:=.iface 36 (cY er i),recovered:=true}::older)∧w'=w.setRow g #[.int .i64 er,.int .i64 (i:Int)]:=by
 refine callsD_of_wpS func165 rfl fun c₀ cs hu=> ?_
 apply wpS_seq;apply wpS_region;simp[wpOpsS,go_sem,recoverD,hu,ntmps165,Exit.thenS];refine wpS_of_wp ?_;rw[show (#[Value.pointer (some ⟨g,0,none⟩)]++((Array.replicate 6 undef).setIfInBounds 1 (Value.iface 36 (cY er i))).setIfInBounds 0 (Value.iface 36 (cY er i)):Array Value)= #[.pointer (some ⟨g,0,none⟩),.iface 36 (cY er i),.iface 36 (cY er i),undef,undef,undef,undef] from rfl];have HG:=ab hg;clear hg;have hta:∀(v:Value) (x:TypeId) (w:World),(Instr.typeAssert (.iface 36 v) x 36 false).run prog w=.ok v w:=fun v x w=>by
  simp[Instr.typeAssert,run_underlying underlying36,go_sem,Result.andThen]
 unfold cY;go_wp2_with (first
  | (refine bh rfl 36 _ _ rfl g #[.int .i64 er,.int .i64 (i:Int)] rfl rfl 36 old (aa HG) zc ho (by simp[Value.oneCell']) ?_)
  | fail)
 exact⟨rfl,_,rfl,_,results_none rfl _ _ _,rfl,rfl,rfl⟩
theorem I8 (p:Addr) (w:World):
  CallsD prog 165 #[.pointer (some p)] .returning w fun e u' w'=>e=.returned (.tuple #[])∧u'=.returning∧w'=w:=by
 refine callsD_of_wpS func165 rfl fun c₀ cs hu=> ?_
 apply wpS_seq;apply wpS_region;simp[wpOpsS,go_sem,recoverD,hu,ntmps165,Exit.thenS];refine wpS_of_wp ?_;rw[show (#[Value.pointer (some p)]++((Array.replicate 6 undef).setIfInBounds 1 Value.nilIface).setIfInBounds 0 Value.nilIface:Array Value)= #[.pointer (some p),.nilIface,.nilIface,undef,undef,undef,undef] from rfl];go_wp2_with fail;exact⟨rfl,_,by cases c₀;simp_all,_,results_none rfl _ _ _,rfl,rfl,rfl⟩
theorem EE (tmps:Array Value) (W:World) (gp gf:Nat) (cs fs:Array Value) (h2:tmps.getD 2 undef=.pointer (some ⟨gp,0,none⟩)) (h3:tmps.getD 3 undef=.pointer (some ⟨gf,0,none⟩)) (hp:W.heap[gp]? =some (.cells cs 27 (0,0))) (hf:W.heap[gf]? =some (.cells fs 36 (0,0))) (jg:cs.size=5) (hfs:fs.size=2):
  (results Tryz.f149 tmps).run prog W=.ok (.tuple #[.agg cs,.agg fs]) W:=by
 have h2':tmps[2]?.getD undef=.pointer (some ⟨gp,0,none⟩):=by simpa using h2
 have h3':tmps[3]?.getD undef=.pointer (some ⟨gf,0,none⟩):=by simpa using h3
 have e1:=uR (P:=prog) W gp 27 27 cs (0,0) _ hp underlying27 rfl (by rw[jg];exact dE)
 have e2:=uR (P:=prog) W gf 36 36 fs (0,0) _ hf underlying36 rfl (by rw[hfs];exact zc)
 simp[results,Tryz.results149,h2',h3',asAddr,e1,e2]
theorem Hq (s:ByteArray) (w:World) (hs:s.size≤65536) (hS:dA w):Calls prog 149 #[.string s] w fun e w'=>Below w.heap.size w w'∧
  (∀p j,n9 s=.ok (p,j)→∃U:PT,e=.returned (.tuple #[pv U,cY 0 0])∧U.can=p∧bf w.heap.size w' U)∧(∀er a,n9 s=.error (er,a)→∃V:PT,e=.returned (.tuple #[pv V,cY er a])):=by
 have hmf:∀(fn:Fn) (first cap:Array Value) (w:World),(Instr.makeFunc fn first cap).run prog w=.ok (.func fn first cap) w:=fun _ _ _ _=>rfl
 have hG:=hS.lt;obtain⟨w0,fV⟩:∃w0,w0=((w.alloc (.cells aB 27)).alloc (.cells #[.int .i64 0,.int .i64 0] 36)).alloc (.cells #[.string s,.int .i64 0,.int .i64 0] 198):=⟨_,rfl⟩;have bd:Below w.heap.size w w0:=by rw[fV];exact((ba _).alloc (by simp) _).alloc (by simp;omega) _
 have ay:w0.heap.size=w.heap.size+1+1+1:=by rw[fV];simp
 have j5:bQ w0 (w.heap.size+1+1) s 0 0:=by rw[fV];exact ax (by simp)
 have rf:w0.heap[w.heap.size+1]? =some (.cells #[.int .i64 0,.int .i64 0] 36 (0,0)):=by rw[fV];exact ci (by simp) (ax (by simp))
 have hp0:w0.heap[w.heap.size]? =some (.cells aB 27 (0,0)):=by rw[fV];exact ci (by simp;omega) (ci (by simp) oQ)
 obtain⟨D,hD⟩:∃D,D=200:=⟨_,rfl⟩;have ho:((200 - D:Nat):Int)=0:=by omega
 have hA:Calls prog 166 #[.pointer (some ⟨w.heap.size+1+1,0,none⟩)] w0 fun e w'=>fR (eW w0.heap.size) (w.heap.size+1+1) s ((200 - D:Nat):Int) w0 (jL s D 0) e w':=
  DE D (by omega) s 0 (w.heap.size+1+1) w0 hs (cU _) (by rw[ho];exact j5) (hS.later bd) (by omega)
 rw[ho] at hA;have HA:=ab hA;have HW:=ab fV;have H0:=ab (And.intro bd (And.intro rf hp0));have kg:Hid (n9 s=bJ (jL s D 0) fun p j=>if j < s.size then .error (2,j) else .ok (p,j)):=ab (by rw[hD];rfl)
 have pH:=ab (fun p j=>yj s D 0 p j (cU _))
 generalize n9 s=RA at *;generalize jL s D 0=R at *;clear fV bd j5 rf hp0 hS hA ho hD D;have key:∀(er:Int) (a:Nat) (W:World),But (w.heap.size+1+1) w0 W∨True→RA=.error (er,a)→Below w.heap.size w W→W.heap[w.heap.size+1]? =some (.cells #[.int .i64 0,.int .i64 0] 36 (0,0))→(∃V:PT,W.heap[w.heap.size]? =some (.cells (ai V) 27 (0,0)))→∀tmps:Array Value,tmps.getD 2 undef=.pointer (some ⟨w.heap.size,0,none⟩)→tmps.getD 3 undef=.pointer (some ⟨w.heap.size+1,0,none⟩)→
   bodyPostD prog Tryz.f149 (fun e w'=>Below w.heap.size w w'∧(∀p j,RA=.ok (p,j)→∃U:PT,e=.returned (.tuple #[pv U,cY 0 0])∧U.can=p∧bf w.heap.size w' U)∧(∀er a,RA=.error (er,a)→∃V:PT,e=.returned (.tuple #[pv V,cY er a])))
    (Exit.panic [{v:=.iface 36 (cY er a),recovered:=false}]) {tmps:=tmps,defers:=[{target:=Target.fn (Fn.func 165) #[.pointer (some ⟨w.heap.size+1,0,none⟩)],args:= #[]}]} W:=by
  intro er a W _ mf hbW hfW hpW tmps ht2 ht3;obtain⟨V,jg⟩:=hpW;refine leaves_cons (f:=165) (args:= #[.pointer (some ⟨w.heap.size+1,0,none⟩)]) (by simp) (by simp[go_sem]) ?_
  refine(GQ (w.heap.size+1) er a _ [] _ hfW rfl).mono ?_;rintro e u' w'' ⟨rfl,rfl,rfl⟩;have l9:w.heap.size≠w.heap.size+1:=by omega
  refine⟨_,EE tmps _ w.heap.size (w.heap.size+1) (ai V) #[.int .i64 er,.int .i64 (a:Int)] ht2 ht3 ((eZ W _ _ _ l9).trans jg) (bW _ _ _ _ _ _ hfW) rfl rfl,ed hbW _ (by omega) _,fun p j h=> ?_,fun er' a' h=> ?_⟩
  ·rw[mf] at h;cases h
  ·rw[mf] at h
   injection h with h;injection h with h1 h2
   subst h1 h2;exact⟨V,rfl⟩
 have mJ:=ab key;clear key;rcases R with ⟨er,a⟩ | ⟨p,j⟩
 ·have go:Hid (RA=.error (er,a)):=ab (by rw[aa kg,jr])
  go_enter_defers func149,ntmps149;go_wp2_with fail;rw[show ((w.alloc (.cells #[.int .i64 0,.string ⟨#[]⟩,.int .i64 0,.string ⟨#[]⟩,.slice none 0 0] 27)).alloc (.cells #[.int .i64 0,.int .i64 0] 36)).alloc (.cells #[.string s,.int .i64 0,.int .i64 0] 198)=w0 from (aa HW).symm];refine(aa HA).mono ?_;intro e w1 hP;obtain⟨hb1,rfl⟩:=jW hP rfl;unfold aC;exact aa mJ er a w1 (.inr trivial) (aa go) (But.below (aa H0).1 hb1 (by omega)) (dK hb1 (aa H0).2.1 (by omega)) ⟨aP 0 ⟨#[]⟩ 0 ⟨#[]⟩ [],dK hb1 (aa H0).2.2 (by omega)⟩ _ rfl rfl
 ·have nv:=aa pH p j rfl
  have dU:Hid (RA=if j < s.size then .error (2,j) else .ok (p,j)):=ab (by rw[aa kg,dw])
  go_enter_defers func149,ntmps149;go_wp2_with fail;rw[show ((w.alloc (.cells #[.int .i64 0,.string ⟨#[]⟩,.int .i64 0,.string ⟨#[]⟩,.slice none 0 0] 27)).alloc (.cells #[.int .i64 0,.int .i64 0] 36)).alloc (.cells #[.string s,.int .i64 0,.int .i64 0] 198)=w0 from (aa HW).symm];refine(aa HA).mono ?_;intro e w1 hP;obtain⟨hb1,⟨U,rfl,hU,hL⟩,hR1⟩:=js hP rfl;have iW:=ab (dK hb1 (aa H0).2.1 (by omega))
  have cg:=ab (dK hb1 (aa H0).2.2 (by omega))
  have aX:=ab (But.below (aa H0).1 hb1 (by omega))
  have HU:=ab (And.intro hU hL);have dz:=ab (bW w1 w.heap.size aB (ai U) _ _ (aa cg));have rD:=ab ((eZ w1 w.heap.size (w.heap.size+1) (ai U) (by omega)).trans (aa iW))
  have aE:=ab (ed (aa aX) w.heap.size (aw _) (ai U));have kU:=ab (hL.setRow (g:=w.heap.size) (by omega) (ai U))
  have h2R:=hR1.setRow (g:=w.heap.size) (by omega) (ai U)
  have c1:=h2R.c1;have H2:=ab h2R;clear hP hb1 hU hL hR1 HA pH kg h2R;unfold pv;have HSTO:=ab (aa cg)
  by_cases hj:j < s.size
  ·have go:Hid (RA=.error (2,j)):=ab (by rw[aa dU,af hj])
   have hg:(j:Int) < (s.size:Int):=by omega
   have fc:=ab (uh _ (aa H2));clear hj;go_wp2_with (first
    | (refine bh rfl 27 _ _ rfl w.heap.size (ai U) rfl rfl 27 aB (aa HSTO) dE rfl (gZ _) ?_)
    | (refine(aa fc).mono ?_;rintro e w ⟨rfl,rfl⟩;unfold aC))
   exact aa mJ 2 j _ (.inr trivial) (aa go) (aa aE) (aa rD) ⟨U,aa dz⟩ _ rfl rfl
  ·have go:Hid (RA=.ok (p,j)):=ab (by rw[aa dU,ac hj])
   have hg:¬(j:Int) < (s.size:Int):=by omega
   clear hj;obtain⟨x0,x1,x2,x3,x4⟩:=ee (aa dz);have gq:=ab (bW (w1.setRow w.heap.size (ai U)) w.heap.size (ai U) (ai U) _ _ (aa dz));have pF:=ab ((eZ (w1.setRow w.heap.size (ai U)) w.heap.size (w.heap.size+1) (ai U) (by omega)).trans (aa rD))
   have ao:=ab (ed (aa aE) w.heap.size (aw _) (ai U));have kl:=ab ((aa kU).setRow (g:=w.heap.size) (by omega) (ai U))
   have HF4:=ab (bW _ (w.heap.size+1) _ #[.int .i64 0,.int .i64 0] _ _ (aa pF));have ig:=ab ((eZ _ (w.heap.size+1) w.heap.size #[.int .i64 0,.int .i64 0] (by omega)).trans (aa gq))
   have dD:=ab (ed (aa ao) (w.heap.size+1) (by omega) #[.int .i64 0,.int .i64 0])
   have jF:=ab ((aa kl).setRow (g:=w.heap.size+1) (by omega) #[.int .i64 0,.int .i64 0])
   go_wp2_with (first
    | (refine bh rfl 27 _ _ rfl w.heap.size (ai U) rfl rfl 27 aB (by with_reducible exact aa HSTO) dE rfl (gZ _) ?_)
    | (refine bh rfl 27 _ _ rfl w.heap.size (ai U) rfl rfl 27 (ai U) (by with_reducible exact aa dz) dE rfl (gZ _) ?_)
    | (refine bh rfl 36 _ _ rfl (w.heap.size+1) #[.int .i64 0,.int .i64 0] rfl rfl 36 #[.int .i64 0,.int .i64 0] (by with_reducible exact aa pF) zc rfl (by simp[Value.oneCell']) ?_)
    | fail)
   (try go_frame)
   refine leaves_cons (f:=165) (args:= #[.pointer (some ⟨w.heap.size+1,0,none⟩)]) (by simp) (by simp[go_sem]) ?_
   refine(I8 _ _).mono ?_;rintro e u' w'' ⟨rfl,rfl,rfl⟩;refine⟨_,EE _ _ w.heap.size (w.heap.size+1) (ai U) #[.int .i64 0,.int .i64 0] rfl rfl (aa ig) (aa HF4) rfl rfl,aa dD,fun p' j' h=> ?_,fun er' a' h=> ?_⟩
   ·rw[aa go] at h
    injection h with h;injection h with h1 h2
    subst h1;exact⟨U,rfl,(aa HU).1,(aa jF).mono (by omega)⟩
   ·rw[aa go] at h;cases h
open Go.RowKit
theorem dX {α β:Type} {r:Rd α} {f:α→Nat→Rd β} {x:Int × Nat} (h:bJ r f=.error x):r=.error x∨∃a j,r=.ok (a,j)∧f a j=.error x:=by
 cases r with
 | ok v=>exact .inr ⟨v.1,v.2,rfl,h⟩
 | error e=>rw[jr] at h;injection h with h;exact .inl (by rw[h])
def Nz {α:Type} (s:ByteArray) (P:Nat→Rd α):Prop:=∀i er a,i≤s.size→P i=.error (er,a)→er≠0
theorem xc (s:ByteArray) (c:Nat):Nz s (ez s c):=fun i er a _ h=>by
 unfold ez at h;split at h
 ·cases h
 ·injection h with h;injection h with h _;omega
theorem FU (s:ByteArray):Nz s (ib s):=fun i er a _ h=>by
 unfold ib at h;split at h
 ·split at h
  ·injection h with h;injection h with h _;omega
  ·cases h
 ·injection h with h;injection h with h _;omega
theorem nuP_nz (s:ByteArray):Nz s (mC s):=fun i er a _ h=>by
 unfold mC at h;split at h
 ·split at h
  ·injection h with h;injection h with h _;omega
  ·split at h
   ·injection h with h;injection h with h _;omega
   ·cases h
 ·injection h with h;injection h with h _;omega
theorem FB (s:ByteArray):Nz s (fun i=>jK s i):=fun i er a _ h=>by
 have h':jK s i=.error (er,a):=h;unfold jK at h';split at h'
 ·cases h'
 ·injection h' with h';injection h' with h' _;omega
theorem fiP_nz (s:ByteArray):Nz s (mE s):=fun i er a hi h=>by
 unfold mE at h;split at h
 ·rcases dX h with h | ⟨t,j,h1,h⟩
  ·exact FB s _ _ _ (eG s i hi).2 h
  ·split at h
   ·injection h with h;injection h with h _;omega
   ·cases h
 ·injection h with h;injection h with h _;omega
theorem EL {d:Nat} {B:Nat→Rd PT} {s:ByteArray} (hB:eA s B) (hN:0 < d→Nz s B):Nz s (jZ d B s):=fun i er a hi h=>by
 unfold jZ at h;rcases dX h with h | ⟨u,j,h1,h⟩
 ·exact xc s 40 i er a hi h
 ·have k1:=nR s 40 (by decide) i u j hi h1
  split at h
  ·injection h with h;injection h with h _;omega
  ·rcases dX h with h | ⟨p,k,h2,h⟩
   ·exact hN (by omega) j er a k1.2 h
   ·have k2:=hB j p k k1.2 h2
    rcases dX h with h | ⟨u,m,h3,h⟩
    ·exact xc s 41 k er a k2.2 h
    ·cases h
theorem woP_nz {d:Nat} {B:Nat→Rd PT} {s:ByteArray} (hB:eA s B) (hN:0 < d→Nz s B) {i:Nat} {er:Int} {a:Nat} (hl:dj (aj s i)=true) (h:fK d B s i=.error (er,a)):er≠0:=by
 have h0:=rO hl;unfold fK at h;split at h
 ·injection h with h;injection h with h _;omega
 ·split at h
  ·rcases dX h with h | ⟨u,j,h1,h⟩
   ·exact EL hB hN _ _ _ h0.2 h
   ·cases h
  ·split at h
   ·rcases dX h with h | ⟨u,j,h1,h⟩
    ·exact xc s 40 _ _ _ h0.2 h
    ·have k1:=nR s 40 (by decide) _ u j h0.2 h1
     rcases dX h with h | ⟨n,k,h2,h⟩
     ·exact nuP_nz s _ _ _ k1.2 h
     ·have k2:=zM s j n k k1.2 h2
      rcases dX h with h | ⟨u,m,h3,h⟩
      ·exact xc s 41 _ _ _ k2.2 h
      ·cases h
   ·split at h
    ·rcases dX h with h | ⟨u,j,h1,h⟩
     ·exact xc s 40 _ _ _ h0.2 h
     ·have k1:=nR s 40 (by decide) _ u j h0.2 h1
      rcases dX h with h | ⟨n,k,h2,h⟩
      ·exact fiP_nz s _ _ _ k1.2 h
      ·have k2:=zR s j n k k1.2 h2
       rcases dX h with h | ⟨u,m,h3,h⟩
       ·exact xc s 41 _ _ _ k2.2 h
       ·cases h
    ·cases h
theorem baP_nz {d:Nat} {B:Nat→Rd PT} {s:ByteArray} (hB:eA s B) (hN:0 < d→Nz s B):Nz s (j3 d B s):=fun i er a hi h=>by
 have h0:=eG s i hi;unfold j3 at h;split at h
 ·rcases dX h with h | ⟨u,j,h1,h⟩
  ·exact FB s _ _ _ h0.2 h
  ·cases h
 ·split at h
  ·exact EL hB hN _ _ _ h0.2 h
  ·have key:∀k,nx s i≠0→(bJ (ib s (sk s i+1)) fun t e=>(.ok (aP k ⟨#[]⟩ 0 t [],e):Rd PT))=.error (er,a)→er≠0:=fun k hn h=>by
    have h3:=kW hn;rcases dX h with h | ⟨u,j,h1,h⟩
    ·exact FU s _ _ _ (by omega) h
    ·cases h
   split at h
   ·exact key 23 (by omega) h
   ·split at h
    ·exact key 24 (by omega) h
    ·split at h
     ·rename_i hl
      exact woP_nz hB hN hl h
     ·injection h with h;injection h with h _;omega
theorem F1 (s:ByteArray):∀f p i er a,i≤s.size→s.size < i+f→jd s f p i=.error (er,a)→er≠0
 | 0,p,i,er,a,hi,hf,h=>by omega
 | f+1,p,i,er,a,hi,hf,h=>by
  have h0:=eG s i hi;rw[jd] at h
  by_cases q:jc (nx s i)=0
  ·rw[af q] at h;cases h
  ·rw[ac q] at h
   have hn:nx s i≠0:=fun z=>q (by rw[z];rfl)
   have h3:=kW hn;rcases dX h with h | ⟨t,e,h1,h⟩
   ·exact FU s _ _ _ (by omega) h
   ·have h4:=v8 s (sk s i+1) t e (by omega) h1
    exact F1 s f _ e er a h4.2 (by omega) h
theorem FJ {d:Nat} {B:Nat→Rd PT} {s:ByteArray} (hB:eA s B) (hN:0 < d→Nz s B):Nz s (ia d B s):=fun i er a hi h=>by
 unfold ia at h;rcases dX h with h | ⟨p,j,h1,h⟩
 ·exact baP_nz hB hN _ _ _ hi h
 ·have k1:=zY hB i p j hi h1
  exact F1 s _ _ _ _ _ k1.2 (by omega) h
theorem FN {d:Nat} {B:Nat→Rd PT} {s:ByteArray} (hB:eA s B) (hN:0 < d→Nz s B):∀f l i er a,i≤s.size→s.size < i+f→mA d B s f l i=.error (er,a)→er≠0
 | 0,l,i,er,a,hi,hf,h=>by omega
 | f+1,l,i,er,a,hi,hf,h=>by
  have h0:=eG s i hi;rw[mA] at h
  by_cases q:kB (nx s i)=true
  ·rw[af q] at h
   rcases dX h with h | ⟨t,e,h1,h⟩
   ·exact FJ hB hN _ _ _ h0.2 h
   ·have h3:=vX hB _ t e h0.2 h1
    exact FN hB hN f _ e er a h3.2 (by omega) h
  ·rw[ac q] at h;cases h
theorem FL {d:Nat} {B:Nat→Rd PT} {s:ByteArray} (hB:eA s B) (hN:0 < d→Nz s B):Nz s (iC d B s):=fun i er a hi h=>by
 unfold iC at h;rcases dX h with h | ⟨p,j,h1,h⟩
 ·exact FJ hB hN _ _ _ hi h
 ·have k1:=vX hB i p j hi h1
  rcases dX h with h | ⟨l,e,h2,h⟩
  ·exact FN hB hN _ _ _ _ _ k1.2 (by omega) h
  ·cases h
theorem Gq {d:Nat} {B:Nat→Rd PT} {s:ByteArray} (hB:eA s B) (hN:0 < d→Nz s B):∀f l i er a,i≤s.size→s.size < i+f→mF d B s f l i=.error (er,a)→er≠0
 | 0,l,i,er,a,hi,hf,h=>by omega
 | f+1,l,i,er,a,hi,hf,h=>by
  have h0:=eG s i hi;rw[mF] at h
  by_cases q:nx s i=124
  ·rw[af q] at h
   have hn:=kW (s:=s) (i:=i) (by omega)
   rcases dX h with h | ⟨t,e,h1,h⟩
   ·exact FL hB hN _ _ _ (by omega) h
   ·have h3:=vY hB _ t e (by omega) h1
    exact Gq hB hN f _ e er a h3.2 (by omega) h
  ·rw[ac q] at h;cases h
theorem Gn {d:Nat} {B:Nat→Rd PT} {s:ByteArray} (hB:eA s B) (hN:0 < d→Nz s B):Nz s (m9 d B s):=fun i er a hi h=>by
 unfold m9 at h;rcases dX h with h | ⟨p,j,h1,h⟩
 ·exact FL hB hN _ _ _ hi h
 ·have k1:=vY hB i p j hi h1
  rcases dX h with h | ⟨l,e,h2,h⟩
  ·exact Gq hB hN _ _ _ _ _ k1.2 (by omega) h
  ·cases h
theorem Gs (s:ByteArray):∀d,Nz s (jL s d)
 | 0=>fun i er a hi h=>Gn (d:=0) (B:=fun j=>.error (0,j)) (fun i x j _ h=>by cases h) (fun h=>absurd h (by decide)) i er a hi (by rw[jL] at h;exact h)
 | d+1=>fun i er a hi h=>Gn (yj s d) (fun _=>Gs s d) i er a hi (by rw[jL] at h;exact h)
theorem BW {s:ByteArray} {er:Int} {a:Nat} (h:n9 s=.error (er,a)):er≠0:=by
 unfold n9 at h;rcases dX h with h | ⟨p,j,h1,h⟩
 ·exact Gs s _ _ _ _ (cU _) h
 ·split at h
  ·injection h with h;injection h with h _;omega
  ·cases h
end Go.Proofs.YtlmnjbipfacniaaGreatDoor
