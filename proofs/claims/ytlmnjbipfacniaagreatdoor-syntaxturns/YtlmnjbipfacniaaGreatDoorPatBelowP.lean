/- What pats.wrongBelow and Wrong do, for every pattern. -/
import Derived.Test.YtlmnjbipfacniaaGreatDoorPatWrongP
set_option maxRecDepth 100000
set_option maxHeartbeats 1000000
namespace Go.Proofs.YtlmnjbipfacniaaGreatDoor
open Go.Proofs.Tryz
open Go.RowKit
def B4 (T:PT):Prop:=∀(w:World),T.In w→dI w→
 Calls prog 65 #[.agg #[.int .i64 T.k,.string T.t,.int .i64 T.n,.string T.nm,.slice T.xa T.len T.cap]] w fun e w'=>e=.returned (.int .i64 T.bad)∧Below w.heap.size w w'
theorem CY (f:Nat→Int) {i n:Nat} (h:i≤n) (hf:fT f i≠0):fT f n=fT f i:=by
 induction n with
 | zero=>congr 1;omega
 | succ n ih=>
  rcases cX i (n+1) with h1 | h1
  ·rw[fT,ih (by omega),ac hf]
  ·congr 1;omega
theorem Mk (T:PT) (ih:∀i,i < T.len→B4 (T.kid i)):B4 T:=by
 intro w hT hS;have HN:=ab (fun W (h:Below w.heap.size w W)=>LH T W (PT.In.later h hT) (hS.later h))
 unfold pv at HN;have jr:=hT.max;unfold maxLen at jr;have HD:=ab (And.intro hT (And.intro hS (And.intro ih T.bad_eq)));clear hT hS ih;have dr:=(aW w.heap.size w).alloc (ax _) (.cells #[.int .i64 T.k,.string T.t,.int .i64 T.n,.string T.nm,.slice T.xa T.len T.cap] 27);go_enter func65,ntmps65;go_wp2_with fail;refine(aa HN _ dr).mono ?_;rintro e w1 ⟨rfl,hb1⟩;have hb:=ap dr hb1;have c4:w1.cell? ⟨w.heap.size,4,none⟩=some (.slice T.xa T.len T.cap):=av hb1 (cr (aw rfl));have HB:=ab hb;clear dr hb1 hb HN
 by_cases he:bI T=0
 ·have H0:Hid (T.bad=fT (fun i=>(T.kid i).bad) T.len):=ab (by rw[(aa HD).2.2.2,af he])
  rw[he];clear he;go_wp2_with fail;go_loopw [15] (fun i wr=>∃k:Nat,k≤T.len∧i=.int .i64 (k:Int)∧Below w.heap.size w wr∧fT (fun i=>(T.kid i).bad) k=0) (fun i _=>T.len - (intOf i).toNat)
  case atStart=>exact⟨0,by omega,rfl,aa HB,rfl⟩
  case round=>
   obtain⟨k,hk,rfl,fO,hf⟩:=hrel;clear c4;have HF:=ab hf;clear hf;rcases cX k T.len with hkt | hkt
   ·obtain⟨hT,hS,ih, -⟩:=aa HD
    obtain⟨k0,k1,k2,k3,k4⟩:=hT.cells hkt;have k0:=av fO k0;have k1:=av fO k1;have k2:=av fO k2;have k3:=av fO k3;have k4:=av fO k4;unfold PT.kv at k4;have lm:=kid_at hT hkt;have HX:=ab (And.intro (PT.In.later fO (hT.kids hkt)) (hS.later fO));have HI:=ab (ih k hkt);have jw:=ab fO;clear hT hS ih fO;go_wp2_with fail;have hn:=(aW wr.heap.size wr).alloc (ax _) (.cells #[.int .i64 (T.kid k).k,.string (T.kid k).t,.int .i64 (T.kid k).n,.string (T.kid k).nm,.slice (T.kid k).xa (T.kid k).len (T.kid k).cap] 27);refine(aa HI _ (PT.In.later hn (aa HX).1) ((aa HX).2.later hn)).mono ?_;rintro e w2 ⟨rfl,hb2⟩;have aF:=ab (ap (ap (aa jw) hn) hb2);clear hn hb2
    by_cases he:(T.kid k).bad=0
    ·have HW:Hid (fT (fun i=>(T.kid i).bad) (k+1)=0):=ab (by rw[fT,af (aa HF)];exact he)
     rw[he];clear he;go_wp2_with fail;exact⟨⟨k+1,by omega,by go_num,aa aF,aa HW⟩,by simp[intOf];omega⟩
    ·have HW:Hid (T.bad=(T.kid k).bad):=ab (by
      have h1:fT (fun i=>(T.kid i).bad) (k+1)=(T.kid k).bad:=by rw[fT,af (aa HF)]
      rw[aa H0,CY _ (show k+1≤T.len from hkt) (by rw[h1];exact he),h1])
     have bo:((T.kid k).bad !=0)=true:=by rw[rU];exact he
     clear he;go_wp2_with fail;go_ret;exact⟨by rw[aa HW];rfl,aa aF⟩
   ·have hk':k=T.len:=by omega
    have jw:=ab fO;clear fO;go_wp2_with fail;go_ret;exact⟨by rw[aa H0,←hk',aa HF];rfl,aa jw⟩
 ·have H0:Hid (T.bad=bI T):=ab (by rw[(aa HD).2.2.2,ac he])
  have bo:(bI T !=0)=true:=by rw[rU];exact he
  clear he;go_wp2_with fail;go_ret;exact⟨by rw[aa H0];rfl,aa HB⟩
theorem NJ:∀T:PT,B4 T:=PT.ind Mk
theorem zr (T:PT) (w:World) (hT:T.In w) (hS:dI w):
  Calls prog 33 #[pv T] w fun e w'=>e=.returned (.int .i64 T.wrong)∧Below w.heap.size w w':=by
 have HZ:=ab (fun W (h:Below w.heap.size w W)=>D0 T W (PT.In.later h hT))
 have HB:=ab (fun W (h:Below w.heap.size w W)=>NJ T W (PT.In.later h hT) (hS.later h))
 clear hT hS;unfold pv at HZ;unfold pv;have dr:=(aW w.heap.size w).alloc (ax _) (.cells #[.int .i64 T.k,.string T.t,.int .i64 T.n,.string T.nm,.slice T.xa T.len T.cap] 27);go_enter func33,ntmps33;go_wp2_with fail;refine(aa HZ _ dr).mono ?_;rintro e w1 ⟨rfl,hb1⟩;have H1:=ab (ap dr hb1);have aV:w1.heap[w.heap.size]? =some (.cells #[.int .i64 T.k,.string T.t,.int .i64 T.n,.string T.nm,.slice T.xa T.len T.cap] 27 (0,0)):=am (aw rfl) hb1;have c0:w1.cell? ⟨w.heap.size,0,none⟩=some (.int .i64 T.k):=cr aV;have c1:w1.cell? ⟨w.heap.size,1,none⟩=some (.string T.t):=cr aV;have c2:w1.cell? ⟨w.heap.size,2,none⟩=some (.int .i64 T.n):=cr aV;have c3:w1.cell? ⟨w.heap.size,3,none⟩=some (.string T.nm):=cr aV;have c4:w1.cell? ⟨w.heap.size,4,none⟩=some (.slice T.xa T.len T.cap):=cr aV;clear dr hb1 aV HZ;unfold uu
 cases hf:T.fits
 ·have HW:Hid (T.wrong=4):=ab (by unfold PT.wrong;rw[hf];rfl)
  clear hf;go_wp2_with fail;go_ret;exact⟨by rw[aa HW];rfl,aa H1⟩
 ·have HW:Hid (T.wrong=T.bad):=ab (by unfold PT.wrong;rw[hf];rfl)
  clear hf;go_wp2_with fail;refine(aa HB _ (aa H1)).mono ?_;rintro e w2 ⟨rfl,hb2⟩;have H2:=ab (ap (aa H1) hb2);clear hb2;go_wp2_with fail;go_ret;exact⟨by rw[aa HW];rfl,aa H2⟩
end Go.Proofs.YtlmnjbipfacniaaGreatDoor
