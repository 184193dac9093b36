/- What pats.wrongBelow and Wrong do, for every pattern. -/
import Derived.Test.YtlmnjbipfacniaaGreatDoorPatWrongPs
set_option maxRecDepth 100000
set_option maxHeartbeats 1000000
namespace Go.Proofs.YtlmnjbipfacniaaGreatDoor
open Go.Proofs.Tryz
open Go.RowKit
def BN (T:PT):Prop:=∀(w:World),T.In w→dA w→
 Calls prog 65 #[.agg #[.int .i64 T.k,.string T.t,.int .i64 T.n,.string T.nm,.slice T.xa T.len T.cap]] w fun e w'=>e=.returned (.int .i64 T.bad)∧Below w.heap.size w w'
theorem CE (f:Nat→Int) {i n:Nat} (h:i≤n) (hf:gH f i≠0):gH f n=gH f i:=by
 induction n with
 | zero=>congr 1;omega
 | succ n ih=>
  rcases cG i (n+1) with h1 | h1
  ·rw[gH,ih (by omega),ac hf]
  ·congr 1;omega
theorem LR (T:PT) (ih:∀i,i < T.len→BN (T.kid i)):BN T:=by
 intro w hT hS;have HN:=ab (fun W (h:Below w.heap.size w W)=>Lf T W (PT.In.later h hT) (hS.later h))
 unfold pv at HN;have je:=hT.max;unfold maxLen at je;have HD:=ab (And.intro hT (And.intro hS (And.intro ih T.bad_eq)));clear hT hS ih;have ei:=(aV w.heap.size w).alloc (aw _) (.cells #[.int .i64 T.k,.string T.t,.int .i64 T.n,.string T.nm,.slice T.xa T.len T.cap] 27);go_enter func65,ntmps65;go_wp2_with fail;refine(aa HN _ ei).mono ?_;rintro e w1 ⟨rfl,hb1⟩;have hb:=aq ei hb1;have c4:w1.cell? ⟨w.heap.size,4,none⟩=some (.slice T.xa T.len T.cap):=av hb1 (cr (ax rfl));have HB:=ab hb;clear ei hb1 hb HN
 by_cases he:bM T=0
 ·have H0:Hid (T.bad=gH (fun i=>(T.kid i).bad) T.len):=ab (by rw[(aa HD).2.2.2,af he])
  rw[he];clear he;go_wp2_with fail;go_loopw [15] (fun i wr=>∃k:Nat,k≤T.len∧i=.int .i64 (k:Int)∧Below w.heap.size w wr∧gH (fun i=>(T.kid i).bad) k=0) (fun i _=>T.len - (intOf i).toNat)
  case atStart=>exact⟨0,by omega,rfl,aa HB,rfl⟩
  case round=>
   obtain⟨k,hk,rfl,fD,hf⟩:=hrel;clear c4;have HF:=ab hf;clear hf;rcases cG k T.len with hkt | hkt
   ·obtain⟨hT,hS,ih, -⟩:=aa HD
    obtain⟨k0,k1,k2,k3,k4⟩:=hT.cells hkt;have k0:=av fD k0;have k1:=av fD k1;have k2:=av fD k2;have k3:=av fD k3;have k4:=av fD k4;unfold PT.kv at k4;have lo:=kid_at hT hkt;have HX:=ab (And.intro (PT.In.later fD (hT.kids hkt)) (hS.later fD));have HI:=ab (ih k hkt);have jj:=ab fD;clear hT hS ih fD;go_wp2_with fail;have hn:=(aV wr.heap.size wr).alloc (aw _) (.cells #[.int .i64 (T.kid k).k,.string (T.kid k).t,.int .i64 (T.kid k).n,.string (T.kid k).nm,.slice (T.kid k).xa (T.kid k).len (T.kid k).cap] 27);refine(aa HI _ (PT.In.later hn (aa HX).1) ((aa HX).2.later hn)).mono ?_;rintro e w2 ⟨rfl,hb2⟩;have aE:=ab (aq (aq (aa jj) hn) hb2);clear hn hb2
    by_cases he:(T.kid k).bad=0
    ·have HW:Hid (gH (fun i=>(T.kid i).bad) (k+1)=0):=ab (by rw[gH,af (aa HF)];exact he)
     rw[he];clear he;go_wp2_with fail;exact⟨⟨k+1,by omega,by go_num,aa aE,aa HW⟩,by simp[intOf];omega⟩
    ·have HW:Hid (T.bad=(T.kid k).bad):=ab (by
      have h1:gH (fun i=>(T.kid i).bad) (k+1)=(T.kid k).bad:=by rw[gH,af (aa HF)]
      rw[aa H0,CE _ (show k+1≤T.len from hkt) (by rw[h1];exact he),h1])
     have bi:((T.kid k).bad !=0)=true:=by rw[sf];exact he
     clear he;go_wp2_with fail;go_ret;exact⟨by rw[aa HW];rfl,aa aE⟩
   ·have hk':k=T.len:=by omega
    have jj:=ab fD;clear fD;go_wp2_with fail;go_ret;exact⟨by rw[aa H0,←hk',aa HF];rfl,aa jj⟩
 ·have H0:Hid (T.bad=bM T):=ab (by rw[(aa HD).2.2.2,ac he])
  have bi:(bM T !=0)=true:=by rw[sf];exact he
  clear he;go_wp2_with fail;go_ret;exact⟨by rw[aa H0];rfl,aa HB⟩
theorem Nd:∀T:PT,BN T:=PT.ind LR
theorem zl (T:PT) (w:World) (hT:T.In w) (hS:dA w):
  Calls prog 33 #[pv T] w fun e w'=>e=.returned (.int .i64 T.wrong)∧Below w.heap.size w w':=by
 have HZ:=ab (fun W (h:Below w.heap.size w W)=>DI T W (PT.In.later h hT))
 have HB:=ab (fun W (h:Below w.heap.size w W)=>Nd T W (PT.In.later h hT) (hS.later h))
 clear hT hS;unfold pv at HZ;unfold pv;have ei:=(aV w.heap.size w).alloc (aw _) (.cells #[.int .i64 T.k,.string T.t,.int .i64 T.n,.string T.nm,.slice T.xa T.len T.cap] 27);go_enter func33,ntmps33;go_wp2_with fail;refine(aa HZ _ ei).mono ?_;rintro e w1 ⟨rfl,hb1⟩;have H1:=ab (aq ei hb1);have aS:w1.heap[w.heap.size]? =some (.cells #[.int .i64 T.k,.string T.t,.int .i64 T.n,.string T.nm,.slice T.xa T.len T.cap] 27 (0,0)):=an (ax rfl) hb1;have c0:w1.cell? ⟨w.heap.size,0,none⟩=some (.int .i64 T.k):=cr aS;have c1:w1.cell? ⟨w.heap.size,1,none⟩=some (.string T.t):=cr aS;have c2:w1.cell? ⟨w.heap.size,2,none⟩=some (.int .i64 T.n):=cr aS;have c3:w1.cell? ⟨w.heap.size,3,none⟩=some (.string T.nm):=cr aS;have c4:w1.cell? ⟨w.heap.size,4,none⟩=some (.slice T.xa T.len T.cap):=cr aS;clear ei hb1 aS HZ;unfold uj
 cases hf:T.fits
 ·have HW:Hid (T.wrong=4):=ab (by unfold PT.wrong;rw[hf];rfl)
  clear hf;go_wp2_with fail;go_ret;exact⟨by rw[aa HW];rfl,aa H1⟩
 ·have HW:Hid (T.wrong=T.bad):=ab (by unfold PT.wrong;rw[hf];rfl)
  clear hf;go_wp2_with fail;refine(aa HB _ (aa H1)).mono ?_;rintro e w2 ⟨rfl,hb2⟩;have H2:=ab (aq (aa H1) hb2);clear hb2;go_wp2_with fail;go_ret;exact⟨by rw[aa HW];rfl,aa H2⟩
end Go.Proofs.YtlmnjbipfacniaaGreatDoor
