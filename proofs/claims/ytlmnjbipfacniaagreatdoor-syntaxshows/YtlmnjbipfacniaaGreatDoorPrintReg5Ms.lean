/- What pats.appendKids does, given what appendPat does of each -/
import Derived.Test.YtlmnjbipfacniaaGreatDoorPrintBrkAMs
import Derived.Maps.RangeWalk
import Derived.Test.YtlmnjbipfacniaaGreatDoorRtCMs
import Derived.Test.YtlmnjbipfacniaaGreatDoorLexRepLibMs
import Derived.Test.YtlmnjbipfacniaaGreatDoorPrintReg4Ms
set_option maxRecDepth 100000
set_option maxHeartbeats 4000000
namespace Go.Proofs.YtlmnjbipfacniaaGreatDoor
open Go.Proofs.Tryz
open Go.RowKit
set_option linter.unusedVariables false
structure Ready (W:World):Prop where
 shapes:dA W
 lim:∃m,W.cell? ⟨2,0,none⟩=some (.int .i64 m)
 pow:Lib.TabBelow prog W.heap.size W "internal/strconv.uint64pow10" .u64 Lib.pow10Tab
def mt (W w:World) (v:Value) (l t:List UInt8) (c:Nat) (e:Ending) (w':World):Prop:=∃v' r,e=.returned v'∧aZ w' W.heap.size v' r∧Ext w w' v v'∧Below W.heap.size W w'∧Grew l t r c
def oN (T:PT):Prop:=∀(W w:World) (v:Value) (l:List UInt8),Ready W→T.In W→Below W.heap.size W w→T.bad=0→aZ w W.heap.size v l→max l.length 196700+30 * T.cnt≤10000000→T.cnt≤4096→
 Calls prog 41 #[v,.agg #[.int .i64 T.k,.string T.t,.int .i64 T.n,.string T.nm,.slice T.xa T.len T.cap]] w fun e w'=>mt W w v l T.txt (30 * T.cnt - 10) e w'
theorem lC {W:World} {g:Nat} {a b c d e:Value} {t:TypeId} (h:W.heap[g]? =some (.cells #[a,b,c,d,e] t (0,0))):
  W.cell? ⟨g,0,none⟩=some a∧W.cell? ⟨g,1,none⟩=some b∧W.cell? ⟨g,2,none⟩=some c∧W.cell? ⟨g,3,none⟩=some d∧W.cell? ⟨g,4,none⟩=some e:=by
 refine⟨?_, ?_, ?_, ?_, ?_⟩ <;> rw[eB _ _ _ _ _ _ h] <;> rfl
structure KMid (T:PT) (W w0:World) (v0:Value) (l:List UInt8) (sep:List UInt8) (k:Nat) (v:Value) (r:List UInt8) (wr:World):Prop where
 row:aZ wr W.heap.size v r
 grew:Grew l (iy sep T.kidT k) r (30 * fy (fun i=>(T.kid i).cnt) k)
 bel:Below W.heap.size W wr
 ext:Ext w0 wr v0 v
 box:wr.heap[w0.heap.size]? =some (.cells #[.int .i64 T.k,.string T.t,.int .i64 T.n,.string T.nm,.slice T.xa T.len T.cap] 27 (0,0))
 far:some w0.heap.size≠v.ownBlock
theorem zr {T:PT} {W w0 wr w2:World} {v0 v v2:Value} {l r r2:List UInt8} {sep:List UInt8} {k c:Nat} (hm:KMid T W w0 v0 l sep k v r wr) (hb2:aZ w2 W.heap.size v2 r2) (he:Ext wr w2 v v2) (hB:Below W.heap.size W w2)
  (hg:Grew r ((if 0 < k then sep else [])++T.kidT k) r2 c) (hc:c≤30 * (T.kid k).cnt):KMid T W w0 v0 l sep (k+1) v2 r2 w2:=by
 refine⟨hb2, ?_,hB,hm.ext.trans he,he.row hm.far hm.box, ?_⟩
 ·have h:=(hm.grew.trans hg).cast (show iy sep T.kidT k++((if 0 < k then sep else [])++T.kidT k)=iy sep T.kidT (k+1) by rw[iy,fT])
  refine h.more ?_;simp only[fy];omega
 ·rcases he.lies with e | e
  ·rw[e];exact hm.far
  ·intro x
   have:=e _ x.symm;have:=(bC.1 hm.box).1;omega
theorem zs (T:PT) (ih:∀i,i < T.len→oN (T.kid i)) (sep:ByteArray) (yP:sep.size≤3) (W w:World) (v:Value) (l:List UInt8) (hR:Ready W) (hT:T.In W) (bz:Below W.heap.size W w) (aA:T.bad=0) (hv:aZ w W.heap.size v l) (hl:max l.length 196700+35 * T.cnt≤9000000) (h4:T.cnt≤4096):
  Calls prog 77 #[v,.agg #[.int .i64 T.k,.string T.t,.int .i64 T.n,.string T.nm,.slice T.xa T.len T.cap],.string sep] w fun e w'=>mt W w v l (iy sep.data.toList T.kidT T.len) (30 * fy (fun i=>(T.kid i).cnt) T.len) e w':=by
 have je:=hT.max;unfold maxLen at je;have HD:=ab (And.intro hT (And.intro ih (And.intro aA (And.intro hR (And.intro T.cnt_eq (And.intro hl yP))))));have HM0:=ab (show KMid T W w v l sep.data.toList 0 v l (w.alloc (.cells #[.int .i64 T.k,.string T.t,.int .i64 T.n,.string T.nm,.slice T.xa T.len T.cap] 27)) from
  ⟨hv.later (ba _),Grew.refl l,aq bz (ba _),Ext.below v (ba _),ax rfl,hv.apart (aw _)⟩)
 clear hT ih aA hR hl yP hv bz;go_enter func77,ntmps77;go_wp2_with fail;go_loopw [0,12] (fun u i wr=>∃k r,k≤T.len∧i=.int .i64 ((k:Nat):Int)∧KMid T W w v l sep.data.toList k u r wr) (fun _ i _=>T.len - (intOf i).toNat)
 case atStart=>exact⟨0,l,by omega,rfl,aa HM0⟩
 case round=>
  obtain⟨k,r,hk,rfl,hm⟩:=hrel;rcases cG k T.len with hkt | hkt
  ·obtain⟨hT,ih,aA,hR,yT,hl,yP⟩:=aa HD
   obtain⟨k0,k1,k2,k3,k4⟩:=hT.cells hkt;have k0:=av hm.bel k0;have k1:=av hm.bel k1;have k2:=av hm.bel k2;have k3:=av hm.bel k3;have k4:=av hm.bel k4;unfold PT.kv at k4;have lo:=kid_at hT hkt;have Au:=xQ (fun i=>(T.kid i).cnt) (show k+1≤T.len from hkt)
   have pb:=Lk (fun i=>(T.kid i).cnt) (fun i=>(T.kid i).cnt_pos) T.len
   simp only[fy] at Au;have hmost:=hm.grew.most;have hkp:=(T.kid k).cnt_pos;have sK:Hid ((T.kid k).cnt≤4096):=ab (by omega)
   have HN:Hid (max (r.length+4) 196700+30 * (T.kid k).cnt≤10000000):=ab (by omega)
   have HK:=ab (And.intro (ih k hkt W) (And.intro (hT.kids hkt) (And.intro ((fG aA).2 k hkt) (And.intro hR yP))));have HM:=ab hm;obtain⟨c0,c1,c2,c3,c4⟩:=lC hm.box;have kK:w.heap.size < wr.heap.size:=(bC.1 hm.box).1;have hpn:¬w.heap.size=wr.heap.size:=by omega
   clear hT ih aA hR yT hl yP hm Au pb hmost;have hn:=(aV wr.heap.size wr).alloc (aw _) (.cells #[.int .i64 (T.kid k).k,.string (T.kid k).t,.int .i64 (T.kid k).n,.string (T.kid k).nm,.slice (T.kid k).xa (T.kid k).len (T.kid k).cap] 27);have HH:=ab hn;clear hn;have qw:Hid (sep.data.toList.length=sep.size):=ab (by simp)
   cases vl:lc T.k (T.kid k).k
   ·have HBK:=ab vl
    have rA:Hid (T.kidT k=(T.kid k).txt):=ab (by unfold PT.kidT rZ;rw[vl];rfl)
    clear vl;rcases Nat.eq_zero_or_pos k with ei | ei
    ·have sr:¬(0:Int) < (k:Int):=by omega
     have HK0:=ab ei;clear ei;go_wp2_with (first | (go_at_call 123;refine(y6 _ _ _).mono ?_;rintro e w9 ⟨rfl,rfl⟩;rw[aa HBK]) | (go_at_call 41;refine((aa HK).1 _ _ r (aa HK).2.2.2.1 (aa HK).2.1 (aq (aa HM).bel (aa HH)) (aa HK).2.2.1 ((aa HM).row.later (aa HH)) (by have:=aa HN;omega) (aa sK)).mono ?_;rintro e w2 ⟨v2,r2,rfl,hb2,he2,kN,eS⟩;have j9:=ab (And.intro hb2 (And.intro he2 (And.intro kN eS)));clear hb2 he2 kN eS))
     obtain⟨hb2,he2,kN,eS⟩:=aa j9;exact⟨⟨k+1,r2,by omega,by go_num,zr (aa HM) hb2 ((Ext.below _ (aa HH)).trans he2) kN (eS.cast (by rw[ac (by have:=aa HK0;omega),aa rA];rfl)) (by omega)⟩,by simp[intOf];omega⟩
    ·have sr:(0:Int) < (k:Int):=by omega
     go_wp2_with (first | (at_builtin;refine rL rfl _ _ rfl W.heap.size _ r sep rfl rfl (by exact(aa HM).row.later (aa HH)) (bv (aa HM).bel.size (aa HH).size) (by have:=aa HN;have:=(aa HK).2.2.2.2;omega) ?_;intro v1 w1 gC cW;have eP:=ab (And.intro gC cW);(obtain⟨p0,p1,p2,p3,p4⟩:=lC (cW.row (aa HM).far ((Below.heap_alloc _ _ _ kK).trans (aa HM).box)));(obtain⟨x0,x1,x2,x3,x4⟩:=lC (cW.row ((aa HM).row.apart (aw _)) (ax rfl)));clear gC cW) | (go_at_call 123;refine(y6 _ _ _).mono ?_;rintro e w9 ⟨rfl,rfl⟩;rw[aa HBK]) | (go_at_call 41;refine((aa HK).1 _ _ (r++sep.data.toList) (aa HK).2.2.2.1 (aa HK).2.1 (aq (aa HM).bel (aa HH) |>.trans ((aa eP).2.bel ((aa HM).row.later (aa HH)) (bv (aa HM).bel.size (aa HH).size))) (aa HK).2.2.1 (aa eP).1 (by have:=aa HN;have:=aa qw;have:=(aa HK).2.2.2.2;rw[be];omega) (aa sK)).mono ?_;rintro e w2 ⟨v2,r2,rfl,hb2,he2,kN,eS⟩;have j9:=ab (And.intro hb2 (And.intro he2 (And.intro kN eS)));clear hb2 he2 kN eS))
     obtain⟨hb2,he2,kN,eS⟩:=aa j9;exact⟨⟨k+1,r2,by omega,by go_num,zr (aa HM) hb2 (((Ext.below _ (aa HH)).trans (aa eP).2).trans he2) kN (((Grew.put r sep.data.toList).trans eS).cast (by rw[af ei,aa rA])) (by have:=aa qw;have:=(aa HK).2.2.2.2;omega)⟩,by simp[intOf];omega⟩
   ·have HBK:=ab vl
    have rA:Hid (T.kidT k=40::(T.kid k).txt++[41]):=ab (by unfold PT.kidT rZ;rw[vl];rfl)
    clear vl;rcases Nat.eq_zero_or_pos k with ei | ei
    ·have sr:¬(0:Int) < (k:Int):=by omega
     have HK0:=ab ei;clear ei;have HBc:=ab ((aa HM).row.later (aa HH));have HXc:Hid ((wr.alloc (.cells #[.int .i64 (T.kid k).k,.string (T.kid k).t,.int .i64 (T.kid k).n,.string (T.kid k).nm,.slice (T.kid k).xa (T.kid k).len (T.kid k).cap] 27)).heap[wr.heap.size]? =some (.cells #[.int .i64 (T.kid k).k,.string (T.kid k).t,.int .i64 (T.kid k).n,.string (T.kid k).nm,.slice (T.kid k).xa (T.kid k).len (T.kid k).cap] 27 (0,0))):=ab (ax rfl);have rq:=ab (aq (aa HM).bel (aa HH));have HXf:=ab ((aa HM).row.apart (aw _));have wy:=ab (aa HN);go_wp2_with (first | (go_at_call 123;refine(y6 _ _ _).mono ?_;rintro e w9 ⟨rfl,rfl⟩;rw[aa HBK]));refine C5 (B:=W.heap.size) (r:=r) (bx:=wr.heap.size) (M:=fun l2=>Grew (r++[40]) (T.kid k).txt l2 (30 * (T.kid k).cnt - 10)) bZ bZ bZ bZ bZ bZ bZ bZ rfl rfl rfl rfl (aa HBc) (aa rq).size (by have:=aa wy;omega) (aa HXc) rfl (aa HXf) (fun l2 h2=>by have hm:=h2.most;have:=aa wy;rw[be,List.length_singleton] at hm;omega) (fun w1 v1 hb1 cW=>((aa HK).1 w1 v1 (r++[40]) (aa HK).2.2.2.1 (aa HK).2.1 ((aa rq).trans (cW.bel (aa HBc) (aa rq).size)) (aa HK).2.2.1 hb1 (by have:=aa wy;rw[be,List.length_singleton];omega) (aa sK)).mono fun e w2 h=>by
      obtain⟨v2,r2,rfl,q1,q2,q3,q4⟩:=h;exact⟨v2,rfl,r2,q1,q2,q4⟩) ?_
     intro x w2 v2 l2 hb2 eS he2 hx0;have j9:=ab (And.intro hb2 (And.intro eS he2));have HBl:=ab ((aa rq).trans (he2.bel (aa HBc) (aa rq).size));clear hb2 eS he2;simp only[fl];go_frame;rw[hx0];clear hx0;go_wp2_with fail;obtain⟨hb2,eS,he2⟩:=aa j9;exact⟨⟨k+1,l2++[41],by omega,by go_num,zr (aa HM) hb2 ((Ext.below _ (aa HH)).trans he2) (aa HBl) ((((Grew.put r [40]).trans eS).trans (Grew.put l2 [41])).cast (by rw[ac (by have:=aa HK0;omega),aa rA];simp)) (by simp;omega)⟩,by simp[intOf];omega⟩
    ·have sr:(0:Int) < (k:Int):=by omega
     go_wp2_with (first | (at_builtin;refine rL rfl _ _ rfl W.heap.size _ r sep rfl rfl (by exact(aa HM).row.later (aa HH)) (bv (aa HM).bel.size (aa HH).size) (by have:=aa HN;have:=(aa HK).2.2.2.2;omega) ?_;intro v1 w1 gC cW;have eP:=ab (And.intro gC cW);(obtain⟨p0,p1,p2,p3,p4⟩:=lC (cW.row (aa HM).far ((Below.heap_alloc _ _ _ kK).trans (aa HM).box)));(obtain⟨x0,x1,x2,x3,x4⟩:=lC (cW.row ((aa HM).row.apart (aw _)) (ax rfl)));clear gC cW) | (go_at_call 123;refine(y6 _ _ _).mono ?_;rintro e w9 ⟨rfl,rfl⟩;rw[aa HBK]))
     have HBc:=ab (aa eP).1;have HXc:=ab ((aa eP).2.row ((aa HM).row.apart (aw _)) (show (wr.alloc (.cells #[.int .i64 (T.kid k).k,.string (T.kid k).t,.int .i64 (T.kid k).n,.string (T.kid k).nm,.slice (T.kid k).xa (T.kid k).len (T.kid k).cap] 27)).heap[wr.heap.size]? =some (.cells #[.int .i64 (T.kid k).k,.string (T.kid k).t,.int .i64 (T.kid k).n,.string (T.kid k).nm,.slice (T.kid k).xa (T.kid k).len (T.kid k).cap] 27 (0,0)) from ax rfl));have rq:=ab ((aq (aa HM).bel (aa HH)).trans ((aa eP).2.bel ((aa HM).row.later (aa HH)) (bv (aa HM).bel.size (aa HH).size)));have HXf:=ab ((aa eP).2.far ((aa HM).row.apart (aw _)) (by simp))
     have wy:Hid (max ((r++sep.data.toList).length+1) 196700+30 * (T.kid k).cnt≤10000000):=ab (by have:=aa HN;have:=aa qw;have:=(aa HK).2.2.2.2;rw[be];omega)
     refine C5 (B:=W.heap.size) (r:=(r++sep.data.toList)) (bx:=wr.heap.size) (M:=fun l2=>Grew ((r++sep.data.toList)++[40]) (T.kid k).txt l2 (30 * (T.kid k).cnt - 10)) bZ bZ bZ bZ bZ bZ bZ bZ rfl rfl rfl rfl (aa HBc) (aa rq).size (by have:=aa wy;omega) (aa HXc) rfl (aa HXf) (fun l2 h2=>by have hm:=h2.most;have:=aa wy;rw[be,List.length_singleton] at hm;omega) (fun w1 v1 hb1 cW=>((aa HK).1 w1 v1 ((r++sep.data.toList)++[40]) (aa HK).2.2.2.1 (aa HK).2.1 ((aa rq).trans (cW.bel (aa HBc) (aa rq).size)) (aa HK).2.2.1 hb1 (by have:=aa wy;rw[be,List.length_singleton];omega) (aa sK)).mono fun e w2 h=>by
      obtain⟨v2,r2,rfl,q1,q2,q3,q4⟩:=h;exact⟨v2,rfl,r2,q1,q2,q4⟩) ?_
     intro x w2 v2 l2 hb2 eS he2 hx0;have j9:=ab (And.intro hb2 (And.intro eS he2));have HBl:=ab ((aa rq).trans (he2.bel (aa HBc) (aa rq).size));clear hb2 eS he2;simp only[fl];go_frame;rw[hx0];clear hx0;go_wp2_with fail;obtain⟨hb2,eS,he2⟩:=aa j9;exact⟨⟨k+1,l2++[41],by omega,by go_num,zr (aa HM) hb2 (((Ext.below _ (aa HH)).trans (aa eP).2).trans he2) (aa HBl) (((((Grew.put r sep.data.toList).trans (Grew.put _ [40])).trans eS).trans (Grew.put l2 [41])).cast (by rw[af ei,aa rA];simp)) (by have:=aa qw;have:=(aa HK).2.2.2.2;simp;omega)⟩,by simp[intOf];omega⟩
  ·have hk':k=T.len:=by omega
   have HM:=ab hm;clear hm;go_wp2_with fail;go_ret;have hm:=aa HM;exact⟨_,r,rfl,hm.row,hm.ext,hm.bel,hk'▸hm.grew⟩
open Go.RowKit
theorem pI (K:Nat):(aT K).size≤6:=by
 unfold aT;rcases cG K 25 with h | h
 ·have h:K=0∨K=1∨K=2∨K=3∨K=4∨K=5∨K=6∨K=7∨K=8∨K=9∨K=10∨K=11∨K=12∨K=13∨K=14∨K=15∨K=16∨K=17∨K=18∨K=19∨K=20∨K=21∨K=22∨K=23∨K=24:=by omega
  rcases h with rfl | rfl | rfl | rfl | rfl | rfl | rfl | rfl | rfl | rfl | rfl | rfl | rfl | rfl | rfl | rfl | rfl | rfl | rfl | rfl | rfl | rfl | rfl | rfl | rfl <;> decide
 ·have:CY.getD K ByteArray.empty=ByteArray.empty:=by
   rw[List.getD,wq (by show 25≤K;exact h)];rfl
  rw[this];decide
theorem M3 {W:World} {g:Nat} {a b c d e:Value} {t:TypeId} (h:W.heap[g]? =some (.cells #[a,b,c,d,e] t (0,0))):
  W.cell? ⟨g,0,none⟩=some a∧W.cell? ⟨g,1,none⟩=some b∧W.cell? ⟨g,2,none⟩=some c∧W.cell? ⟨g,3,none⟩=some d∧W.cell? ⟨g,4,none⟩=some e:=by
 refine⟨?_, ?_, ?_, ?_, ?_⟩ <;> rw[eB _ _ _ _ _ _ h] <;> rfl
def kw (T:PT):Value:=if T.wrong=0 then (if 65536 < T.txt.length then .tuple #[.string ⟨#[]⟩,.int .i64 4] else .tuple #[.string ⟨T.txt.toArray⟩,.int .i64 0]) else .tuple #[.string ⟨#[]⟩,.int .i64 T.wrong]
open Go.RowKit
set_option linter.unusedVariables false
theorem wi (b k:Nat) (hk:k < 5) (W:World):(Instr.fieldAt 27 (.pointer (some ⟨b,0,none⟩)) k).run prog W=.ok (.pointer (some ⟨b,k,none⟩)) W:=by
 rcases (show k=0∨k=1∨k=2∨k=3∨k=4 by omega) with rfl | rfl | rfl | rfl | rfl <;> go_simp
theorem Ln (u:Nat):Lib.itoa (u:Int)=Lib.decDigits u:=by
 unfold Lib.itoa;simp
def kA (K:Int) (T:PT):Obj:=.cells #[.int .i64 K,.string T.t,.int .i64 T.n,.string T.nm,.slice T.xa T.len T.cap] 27 (0,0)
theorem zX {W:World} {g:Nat} {a b c d:Value} {t:TypeId} (h:W.heap[g]? =some (.cells #[a,b,c,d] t (0,0))):
  W.cell? ⟨g,0,none⟩=some a∧W.cell? ⟨g,1,none⟩=some b∧W.cell? ⟨g,2,none⟩=some c∧W.cell? ⟨g,3,none⟩=some d:=by
 refine⟨?_, ?_, ?_, ?_⟩ <;> rw[eB _ _ _ _ _ _ h] <;> rfl
theorem ld_int {W:World} {b k:Nat} {n:Int} (h:W.cell? ⟨b,k,none⟩=some (.int .i64 n)):(Instr.loadAt 3 (.pointer (some ⟨b,k,none⟩))).run prog W=.ok (.int .i64 n) W:=by
 go_simp
theorem yp {W:World} {b k:Nat} {s:ByteArray} (h:W.cell? ⟨b,k,none⟩=some (.string s)):(Instr.loadAt 9 (.pointer (some ⟨b,k,none⟩))).run prog W=.ok (.string s) W:=by
 go_simp
theorem ld_sl {W:World} {b k:Nat} {x:Option Addr} {n c:Nat} (h:W.cell? ⟨b,k,none⟩=some (.slice x n c)):(Instr.loadAt 25 (.pointer (some ⟨b,k,none⟩))).run prog W=.ok (.slice x n c) W:=by
 go_simp
theorem B3 {W:World} {b k:Nat} {v0 v1 v2 v3 v4:Value} (h0:W.cell? ⟨b,k,none⟩=some v0) (h1:W.cell? ⟨b,k+1,none⟩=some v1) (h2:W.cell? ⟨b,k+2,none⟩=some v2) (h3:W.cell? ⟨b,k+3,none⟩=some v3) (h4:W.cell? ⟨b,k+4,none⟩=some v4):(Instr.loadAt 27 (.pointer (some ⟨b,k,none⟩))).run prog W=.ok (.agg #[v0,v1,v2,v3,v4]) W:=by
 go_simp
theorem Grew.ret {l t r r':List UInt8} {c:Nat} (h:Grew l t r c) (e:r=r'):Grew l t r' c:=e▸h
theorem Jd (T:PT) (W w:World) (v:Value) (l:List UInt8) (hR:Ready W) (hT:T.In W) (bz:Below W.heap.size W w) (aA:T.bad=0) (hv:aZ w W.heap.size v l) (hl:l.length≤65536) (hh:aO T.k=0) (hw:12≤T.k∧T.k≤17):
  Calls prog 78 #[v,.agg #[.int .i64 T.k,.string T.t,.int .i64 T.n,.string T.nm,.slice T.xa T.len T.cap]] w fun e w'=>mt W w v l T.txt (30 * T.cnt - 10) e w':=by
 obtain⟨r1,r2,r3,r4,r5,r6,r7⟩:=jo (fG aA).1;have fo:=PT.txt_eq r1;have iT:=T.cnt_pos;obtain⟨K,hK⟩:∃K:Nat,T.k=(K:Int):=⟨T.k.toNat,by omega⟩
 obtain⟨s0,s1,s2,s3⟩:=(hR.shapes.later bz) K (by omega) (by omega)
 have hz:(1:Nat) < w.heap.size:=da _ _ s0;have hz':¬w.heap.size=1:=by omega
 rw[show aO (K:Int)=0 by rw[←hK];exact hh] at s1
 obtain⟨lst,qT⟩:∃x,x=cK (K:Int):=⟨_,rfl⟩;obtain⟨mst,qS⟩:∃x,x=cM (K:Int):=⟨_,rfl⟩;rw[←qT] at s2;rw[←qS] at s3;clear qT qS;have h1:¬(K:Int) < 0:=by omega
 have h2:(K:Int) < 25:=by omega
 have aF:=ab (((aV w.heap.size w).alloc (aw _) (.cells #[.int .i64 (K:Int),.string T.t,.int .i64 T.n,.string T.nm,.slice T.xa T.len T.cap] 27)).alloc (by simp) (.cells #[.string (aT K),.int .i64 0,.int .i64 lst,.int .i64 mst] 162))
 have eb:Hid (((w.alloc (.cells #[.int .i64 (K:Int),.string T.t,.int .i64 T.n,.string T.nm,.slice T.xa T.len T.cap] 27)).alloc (.cells #[.string (aT K),.int .i64 0,.int .i64 lst,.int .i64 mst] 162)).heap[w.heap.size]? =some (kA (K:Int) T)):=ab (ci (by simp) (ax rfl))
 have d6:Hid (((w.alloc (.cells #[.int .i64 (K:Int),.string T.t,.int .i64 T.n,.string T.nm,.slice T.xa T.len T.cap] 27)).alloc (.cells #[.string (aT K),.int .i64 0,.int .i64 lst,.int .i64 mst] 162)).heap[w.heap.size+1]? =some (.cells #[.string (aT K),.int .i64 0,.int .i64 lst,.int .i64 mst] 162 (0,0))):=ab (ax (by simp))
 have ii:=ab (hv.apart (aw _));have iW:=ab (hv.apart (Nat.le_succ _));have hwk:(aT T.k.toNat)=aT K:=by rw[hK,Int.toNat_natCast]
 have HT:Hid (T.txt=(aT K).data.toList):=ab (by
  rw[fo,ac (by omega),ac (by omega),ac (by omega),ac (by omega),ac (by omega),ac (by omega),ac (by omega),ac (by omega),ac (by omega),ac (by omega),lf,hwk])
 have h3:¬(K:Int)=20:=by omega
 rw[hK];have aW:=ab hK;clear hK fo;go_enter func78,ntmps78;go_wp2_with (first | (at_builtin;refine rL rfl _ _ rfl W.heap.size _ l (aT K) rfl rfl (by exact hv.later (aa aF)) (by exact bv bz.size (aa aF).size) (by have:=pI K;omega) ?_;intro v1 w1 gC cW;have eP:=ab (And.intro gC cW);(obtain⟨c0,c1,c2,c3,c4⟩:=lC (cW.row (aa ii) (aa eb)));(obtain⟨y0,y1,y2,y3⟩:=zX (cW.row (aa iW) (aa d6)));clear gC cW))
 go_ret;obtain⟨gC,cW⟩:=aa eP;have hws:=pI K;have mM:(aT K).data.toList.length=(aT K).size:=by simp
 exact⟨_,_,rfl,gC,(Ext.below v (aa aF)).trans cW,(aq bz (aa aF)).trans (cW.bel (hv.later (aa aF)) (bv bz.size (aa aF).size)),((Grew.leaf l _ hl (by omega)).cast (aa HT).symm).more (by omega)⟩
theorem Kk (T:PT) (W w:World) (v:Value) (l:List UInt8) (hR:Ready W) (hT:T.In W) (bz:Below W.heap.size W w) (aA:T.bad=0) (hv:aZ w W.heap.size v l) (hl:l.length≤65536) (hh:aO T.k=2) (hw:T.k=2∨8≤T.k∧T.k≤11):
  Calls prog 78 #[v,.agg #[.int .i64 T.k,.string T.t,.int .i64 T.n,.string T.nm,.slice T.xa T.len T.cap]] w fun e w'=>mt W w v l T.txt (30 * T.cnt - 10) e w':=by
 obtain⟨r1,r2,r3,r4,r5,r6,r7⟩:=jo (fG aA).1;have fo:=PT.txt_eq r1;have iT:=T.cnt_pos;obtain⟨K,hK⟩:∃K:Nat,T.k=(K:Int):=⟨T.k.toNat,by omega⟩
 obtain⟨s0,s1,s2,s3⟩:=(hR.shapes.later bz) K (by omega) (by omega)
 have hz:(1:Nat) < w.heap.size:=da _ _ s0;have hz':¬w.heap.size=1:=by omega
 rw[show aO (K:Int)=2 by rw[←hK];exact hh] at s1
 obtain⟨lst,qT⟩:∃x,x=cK (K:Int):=⟨_,rfl⟩;obtain⟨mst,qS⟩:∃x,x=cM (K:Int):=⟨_,rfl⟩;rw[←qT] at s2;rw[←qS] at s3;clear qT qS;have h1:¬(K:Int) < 0:=by omega
 have h2:(K:Int) < 25:=by omega
 have aF:=ab (((aV w.heap.size w).alloc (aw _) (.cells #[.int .i64 (K:Int),.string T.t,.int .i64 T.n,.string T.nm,.slice T.xa T.len T.cap] 27)).alloc (by simp) (.cells #[.string (aT K),.int .i64 2,.int .i64 lst,.int .i64 mst] 162))
 have eb:Hid (((w.alloc (.cells #[.int .i64 (K:Int),.string T.t,.int .i64 T.n,.string T.nm,.slice T.xa T.len T.cap] 27)).alloc (.cells #[.string (aT K),.int .i64 2,.int .i64 lst,.int .i64 mst] 162)).heap[w.heap.size]? =some (kA (K:Int) T)):=ab (ci (by simp) (ax rfl))
 have d6:Hid (((w.alloc (.cells #[.int .i64 (K:Int),.string T.t,.int .i64 T.n,.string T.nm,.slice T.xa T.len T.cap] 27)).alloc (.cells #[.string (aT K),.int .i64 2,.int .i64 lst,.int .i64 mst] 162)).heap[w.heap.size+1]? =some (.cells #[.string (aT K),.int .i64 2,.int .i64 lst,.int .i64 mst] 162 (0,0))):=ab (ax (by simp))
 have ii:=ab (hv.apart (aw _));have iW:=ab (hv.apart (Nat.le_succ _));have hwk:(aT T.k.toNat)=aT K:=by rw[hK,Int.toNat_natCast]
 obtain⟨u,hu⟩:∃u:Nat,T.n=(u:Int):=⟨T.n.toNat,by have:=r4 hh;omega⟩
 have hu2:u≤65536:=by have:=r4 hh;omega
 have HT:Hid (T.txt=(aT K).data.toList++(40::Lib.decDigits u++[41])):=ab (by
  rw[fo,ac (by omega),ac (by omega),ac (by omega),ac (by omega),ac (by omega),ac (by omega),ac (by omega),af hh,hwk,hu,Ln])
 have HDL:Hid ((Lib.decDigits u).length≤20):=ab (by
  rw[Lib.decDigits_length];rcases Nat.eq_zero_or_pos u with rfl | hp
  ·rw[Lib.nDigits];decide
  ·have:=Lib.numDigits_eq u hp (by omega)
   split at this <;> omega)
 have HU:=ab hu;clear hu;have qx:Hid ((l++(aT K).data.toList).length+140000≤100000000):=ab (by
  have:=pI K;have hq:(aT K).data.toList.length=(aT K).size:=by simp
  rw[be];omega)
 rw[hK];have aW:=ab hK;clear hK fo;go_enter func78,ntmps78;go_wp2_with (first | (at_builtin;refine rL rfl _ _ rfl W.heap.size _ l (aT K) rfl rfl (by exact hv.later (aa aF)) (by exact bv bz.size (aa aF).size) (by have:=pI K;omega) ?_;intro v1 w1 gC cW;have eP:=ab (And.intro gC cW);(obtain⟨c0,c1,c2,c3,c4⟩:=lC (cW.row (aa ii) (aa eb)));(obtain⟨y0,y1,y2,y3⟩:=zX (cW.row (aa iW) (aa d6)));clear gC cW))
 have bG:Hid (Below W.heap.size W w1):=ab ((aq bz (aa aF)).trans ((aa eP).2.bel (hv.later (aa aF)) (bv bz.size (aa aF).size)));refine ID (B:=W.heap.size) (r:=l++(aT K).data.toList) (bx:=w.heap.size) (row:=kA (K:Int) T) (u:=u) (M:=fun l2=>l2=l++(aT K).data.toList++[40]++Lib.decDigits u) bZ bZ bZ bZ bZ bZ bZ bZ bZ rfl rfl rfl (aa eP).1 (aa bG).size (aa qx) rfl ((aa eP).2.row (aa ii) (aa eb)) ((aa eP).2.far (aa ii) (by simp;omega)) (fun W=>wi _ 2 (by omega) W) (fun W hW=>ld_int (aa HU▸(lC hW).2.2.1)) (fun l2 h2=>by
   have:=aa HDL;have:=aa qx;rw[h2,be,be,List.length_singleton];omega) (fun w3 v3 hb3 qr=>(G0 u hu2 hb3 (bv (aa bG).size qr.grown.size) (by have:=aa qx;rw[be,List.length_singleton];omega) (hR.pow w3 ((aa bG).trans (qr.bel (aa eP).1 (aa bG).size)))).mono fun e w4 h=>by
   obtain⟨v4,rfl,q1,q2⟩:=h;exact⟨v4,rfl,_,q1,q2,rfl⟩) ?_
 intro x w2 v2 l2 hb2 eI he2 cv;have j9:=ab (And.intro hb2 (And.intro eI he2));clear hb2 eI he2;simp only[fl];go_frame;rw[cv];clear cv;go_wp2_with fail;go_ret;obtain⟨hb2,eI,he2⟩:=aa j9;obtain⟨gC,cW⟩:=aa eP;have hws:=pI K;have mM:(aT K).data.toList.length=(aT K).size:=by simp
 obtain⟨l0,rfl,rfl⟩:=eI;have hdl:=aa HDL;exact⟨_,_,rfl,hb2,(Ext.below v (aa aF)).trans (cW.trans he2),(aa bG).trans (he2.bel gC (aa bG).size),(((Grew.leaf l ((aT K).data.toList++(40::Lib.decDigits u++[41])) hl (by simp only[be,List.length_cons,List.length_nil];omega)).cast (aa HT).symm).more (by omega)).ret (by simp)⟩
theorem Kj (T:PT) (W w:World) (v:Value) (l:List UInt8) (hR:Ready W) (hT:T.In W) (bz:Below W.heap.size W w) (aA:T.bad=0) (hv:aZ w W.heap.size v l) (hl:l.length≤65536) (hh:aO T.k=1) (hw:3≤T.k∧T.k≤7):
  Calls prog 78 #[v,.agg #[.int .i64 T.k,.string T.t,.int .i64 T.n,.string T.nm,.slice T.xa T.len T.cap]] w fun e w'=>mt W w v l T.txt (30 * T.cnt - 10) e w':=by
 obtain⟨r1,r2,r3,r4,r5,r6,r7⟩:=jo (fG aA).1;have fo:=PT.txt_eq r1;have iT:=T.cnt_pos;obtain⟨K,hK⟩:∃K:Nat,T.k=(K:Int):=⟨T.k.toNat,by omega⟩
 obtain⟨s0,s1,s2,s3⟩:=(hR.shapes.later bz) K (by omega) (by omega)
 have hz:(1:Nat) < w.heap.size:=da _ _ s0;have hz':¬w.heap.size=1:=by omega
 rw[show aO (K:Int)=1 by rw[←hK];exact hh] at s1
 obtain⟨lst,qT⟩:∃x,x=cK (K:Int):=⟨_,rfl⟩;obtain⟨mst,qS⟩:∃x,x=cM (K:Int):=⟨_,rfl⟩;rw[←qT] at s2;rw[←qS] at s3;clear qT qS;have h1:¬(K:Int) < 0:=by omega
 have h2:(K:Int) < 25:=by omega
 have aF:=ab (((aV w.heap.size w).alloc (aw _) (.cells #[.int .i64 (K:Int),.string T.t,.int .i64 T.n,.string T.nm,.slice T.xa T.len T.cap] 27)).alloc (by simp) (.cells #[.string (aT K),.int .i64 1,.int .i64 lst,.int .i64 mst] 162))
 have eb:Hid (((w.alloc (.cells #[.int .i64 (K:Int),.string T.t,.int .i64 T.n,.string T.nm,.slice T.xa T.len T.cap] 27)).alloc (.cells #[.string (aT K),.int .i64 1,.int .i64 lst,.int .i64 mst] 162)).heap[w.heap.size]? =some (kA (K:Int) T)):=ab (ci (by simp) (ax rfl))
 have d6:Hid (((w.alloc (.cells #[.int .i64 (K:Int),.string T.t,.int .i64 T.n,.string T.nm,.slice T.xa T.len T.cap] 27)).alloc (.cells #[.string (aT K),.int .i64 1,.int .i64 lst,.int .i64 mst] 162)).heap[w.heap.size+1]? =some (.cells #[.string (aT K),.int .i64 1,.int .i64 lst,.int .i64 mst] 162 (0,0))):=ab (ax (by simp))
 have ii:=ab (hv.apart (aw _));have iW:=ab (hv.apart (Nat.le_succ _));have hwk:(aT T.k.toNat)=aT K:=by rw[hK,Int.toNat_natCast]
 have iQ:=r3 hh;have hqs:=AQ T.t iQ;have HT:Hid (T.txt=(aT K).data.toList++(40::(fI T.t).data.toList++[41])):=ab (by
  rw[fo,ac (by omega),ac (by omega),ac (by omega),ac (by omega),ac (by omega),ac (by omega),ac (by omega),ac (by omega),af hh,hwk]
  rfl)
 have qx:Hid ((l++(aT K).data.toList).length+140000≤100000000):=ab (by
  have:=pI K;have hq:(aT K).data.toList.length=(aT K).size:=by simp
  rw[be];omega)
 rw[hK];have aW:=ab hK;clear hK fo;go_enter func78,ntmps78;go_wp2_with (first | (at_builtin;refine rL rfl _ _ rfl W.heap.size _ l (aT K) rfl rfl (by exact hv.later (aa aF)) (by exact bv bz.size (aa aF).size) (by have:=pI K;omega) ?_;intro v1 w1 gC cW;have eP:=ab (And.intro gC cW);(obtain⟨c0,c1,c2,c3,c4⟩:=lC (cW.row (aa ii) (aa eb)));(obtain⟨y0,y1,y2,y3⟩:=zX (cW.row (aa iW) (aa d6)));clear gC cW))
 have bG:Hid (Below W.heap.size W w1):=ab ((aq bz (aa aF)).trans ((aa eP).2.bel (hv.later (aa aF)) (bv bz.size (aa aF).size)));obtain⟨mm,qn⟩:=hR.lim;refine Io (B:=W.heap.size) (r:=l++(aT K).data.toList) (bx:=w.heap.size) (row:=kA (K:Int) T) (t:=T.t) bZ bZ bZ bZ bZ bZ bZ bZ bZ bZ rfl rfl rfl (aa eP).1 (aa bG).size (aa qx) rfl ((aa eP).2.row (aa ii) (aa eb)) ((aa eP).2.far (aa ii) (by simp;omega)) (by omega) (fun W=>wi _ 1 (by omega) W) (fun W hW=>yp (lC hW).2.1) (fun w3 {c} qr=>(A2 T.t w3 iQ mm (av ((aa bG).trans (qr.bel (aa eP).1 (aa bG).size)) qn))) ?_
 intro x w2 v2 l2 hb2 eI he2 cv;have j9:=ab (And.intro hb2 (And.intro eI he2));clear hb2 eI he2;simp only[fl];go_frame;rw[cv];clear cv;go_wp2_with fail;go_ret;obtain⟨hb2,eI,he2⟩:=aa j9;obtain⟨gC,cW⟩:=aa eP;have hws:=pI K;have mM:(aT K).data.toList.length=(aT K).size:=by simp
 have eI:l2=l++(aT K).data.toList++[40]++(fI T.t).data.toList++[41]:=eI;subst eI;have hql:(fI T.t).data.toList.length=(fI T.t).size:=by simp
 exact⟨_,_,rfl,hb2,(Ext.below v (aa aF)).trans (cW.trans he2),(aa bG).trans (he2.bel gC (aa bG).size),(((Grew.leaf l ((aT K).data.toList++(40::(fI T.t).data.toList++[41])) hl (by simp only[be,List.length_cons,List.length_nil];omega)).cast (aa HT).symm).more (by omega)).ret (by simp)⟩
theorem Kl (T:PT) (W w:World) (v:Value) (l:List UInt8) (hR:Ready W) (hT:T.In W) (bz:Below W.heap.size W w) (aA:T.bad=0) (hv:aZ w W.heap.size v l) (hl:l.length≤65536) (hh:aO T.k=0) (hw:T.k=20) (ih:oN (T.kid 0)) (hN:max l.length 196700+30 * T.cnt≤10000000) (h4:T.cnt≤4096):
  Calls prog 78 #[v,.agg #[.int .i64 T.k,.string T.t,.int .i64 T.n,.string T.nm,.slice T.xa T.len T.cap]] w fun e w'=>mt W w v l T.txt (30 * T.cnt - 10) e w':=by
 obtain⟨r1,r2,r3,r4,r5,r6,r7⟩:=jo (fG aA).1;have fo:=PT.txt_eq r1;have iT:=T.cnt_pos;obtain⟨K,hK⟩:∃K:Nat,T.k=(K:Int):=⟨T.k.toNat,by omega⟩
 obtain⟨s0,s1,s2,s3⟩:=(hR.shapes.later bz) K (by omega) (by omega)
 have hz:(1:Nat) < w.heap.size:=da _ _ s0;have hz':¬w.heap.size=1:=by omega
 rw[show aO (K:Int)=0 by rw[←hK];exact hh] at s1
 obtain⟨lst,qT⟩:∃x,x=cK (K:Int):=⟨_,rfl⟩;obtain⟨mst,qS⟩:∃x,x=cM (K:Int):=⟨_,rfl⟩;rw[←qT] at s2;rw[←qS] at s3;clear qT qS;have h1:¬(K:Int) < 0:=by omega
 have h2:(K:Int) < 25:=by omega
 have aF:=ab (((aV w.heap.size w).alloc (aw _) (.cells #[.int .i64 (K:Int),.string T.t,.int .i64 T.n,.string T.nm,.slice T.xa T.len T.cap] 27)).alloc (by simp) (.cells #[.string (aT K),.int .i64 0,.int .i64 lst,.int .i64 mst] 162))
 have eb:Hid (((w.alloc (.cells #[.int .i64 (K:Int),.string T.t,.int .i64 T.n,.string T.nm,.slice T.xa T.len T.cap] 27)).alloc (.cells #[.string (aT K),.int .i64 0,.int .i64 lst,.int .i64 mst] 162)).heap[w.heap.size]? =some (kA (K:Int) T)):=ab (ci (by simp) (ax rfl))
 have d6:Hid (((w.alloc (.cells #[.int .i64 (K:Int),.string T.t,.int .i64 T.n,.string T.nm,.slice T.xa T.len T.cap] 27)).alloc (.cells #[.string (aT K),.int .i64 0,.int .i64 lst,.int .i64 mst] 162)).heap[w.heap.size+1]? =some (.cells #[.string (aT K),.int .i64 0,.int .i64 lst,.int .i64 mst] 162 (0,0))):=ab (ax (by simp))
 have ii:=ab (hv.apart (aw _));have iW:=ab (hv.apart (Nat.le_succ _));have hwk:(aT T.k.toNat)=aT K:=by rw[hK,Int.toNat_natCast]
 have bU:0 < T.len:=by
  have h6:cK T.k=1:=by unfold cK;rw[ac (by omega),af (by omega)]
  omega
 have hkp:=(T.kid 0).cnt_pos;have hkc:1+(T.kid 0).cnt≤T.cnt:=by
  have h1:=T.cnt_eq;have h2:=xQ (fun i=>(T.kid i).cnt) (show 0+1≤T.len from bU)
  simp only[fy] at h2;omega
 have HT:Hid (T.txt=(aT K).data.toList++(40::(T.kid 0).txt++[41])):=ab (by
  rw[fo,ac (by omega),ac (by omega),ac (by omega),ac (by omega),ac (by omega),ac (by omega),ac (by omega),ac (by omega),ac (by omega),af hw,hwk])
 have jD:((K:Int)==20)=true:=bt;have HLW:Hid ((l++(aT K).data.toList).length≤65542):=ab (by
  have:=pI K;have hq:(aT K).data.toList.length=(aT K).size:=by simp
  rw[be];omega)
 have HKC:=ab (hT.cells bU);have HIA:=ab (kid_at hT bU);have qx:Hid ((l++(aT K).data.toList).length+140000≤100000000):=ab (by
  have:=pI K;have hq:(aT K).data.toList.length=(aT K).size:=by simp
  rw[be];omega)
 rw[hK];have aW:=ab hK;clear hK fo;go_enter func78,ntmps78;go_wp2_with (first | (at_builtin;refine rL rfl _ _ rfl W.heap.size _ l (aT K) rfl rfl (by exact hv.later (aa aF)) (by exact bv bz.size (aa aF).size) (by have:=pI K;omega) ?_;intro v1 w1 gC cW;have eP:=ab (And.intro gC cW);(obtain⟨c0,c1,c2,c3,c4⟩:=lC (cW.row (aa ii) (aa eb)));(obtain⟨y0,y1,y2,y3⟩:=zX (cW.row (aa iW) (aa d6)));clear gC cW))
 have bG:Hid (Below W.heap.size W w1):=ab ((aq bz (aa aF)).trans ((aa eP).2.bel (hv.later (aa aF)) (bv bz.size (aa aF).size)));refine Jc (B:=W.heap.size) (r:=l++(aT K).data.toList) (bx:=w.heap.size) (row:=kA (K:Int) T) (kids:=.slice T.xa T.len T.cap) (kp:=.pointer (some ⟨T.b,T.o,none⟩)) (kid:=.agg #[.int .i64 (T.kid 0).k,.string (T.kid 0).t,.int .i64 (T.kid 0).n,.string (T.kid 0).nm,.slice (T.kid 0).xa (T.kid 0).len (T.kid 0).cap]) (M:=fun l2=>Grew (l++(aT K).data.toList++[40]) (T.kid 0).txt l2 (30 * (T.kid 0).cnt - 10)) bZ bZ bZ bZ bZ bZ bZ bZ bZ bZ bZ rfl rfl rfl (aa eP).1 (aa bG).size (aa qx) rfl ((aa eP).2.row (aa ii) (aa eb)) ((aa eP).2.far (aa ii) (by simp;omega)) (fun W=>wi _ 4 (by omega) W) (fun W hW=>ld_sl (lC hW).2.2.2.2) (fun W=>by simpa using aa HIA W) (fun W' {c} qr=>by
   have hb:=(aa bG).trans (qr.bel (aa eP).1 (aa bG).size);obtain⟨k0,k1,k2,k3,k4⟩:=aa HKC;have:=B3 (av hb k0) (av hb k1) (av hb k2) (av hb k3) (av hb k4)
   simpa [PT.kv] using this) (fun l2 h2=>by
   have hm:=h2.most;have:=aa HLW;rw[be,List.length_singleton] at hm;omega) (fun w3 v3 hb3 qr=>(ih W w3 v3 (l++(aT K).data.toList++[40]) hR (hT.kids bU) ((aa bG).trans (qr.bel (aa eP).1 (aa bG).size)) ((fG aA).2 0 bU) hb3 (by have:=aa HLW;rw[be,List.length_singleton];omega) (by omega)).mono fun e w4 h=>by
   obtain⟨v4,r4,rfl,q1,q2,q3,q4⟩:=h;exact⟨v4,rfl,r4,q1,q2,q4⟩) ?_
 intro x w2 v2 l2 hb2 eI he2 cv;have j9:=ab (And.intro hb2 (And.intro eI he2));clear hb2 eI he2;simp only[fl];go_frame;rw[cv];clear cv;go_wp2_with fail;go_ret;obtain⟨hb2,eI,he2⟩:=aa j9;obtain⟨gC,cW⟩:=aa eP;have hws:=pI K;have mM:(aT K).data.toList.length=(aT K).size:=by simp
 obtain⟨l0,hg,rfl⟩:=eI;exact⟨_,_,rfl,hb2,(Ext.below v (aa aF)).trans (cW.trans he2),(aa bG).trans (he2.bel gC (aa bG).size),(((((Grew.put l (aT K).data.toList).trans (Grew.put _ [40])).trans hg).trans (Grew.put l0 [41])).cast (by rw[aa HT];simp)).more (by simp only[List.length_cons,List.length_nil];omega)⟩
open Go.RowKit
structure CurF (B:Nat) (w0:World) (v:Value) (r:List UInt8) (bx:Nat) (nm:ByteArray) (L:Array Bool) (x:Nat→Value) (w:World) (cur:Value) (l:List UInt8):Prop where
 size:L.size=7
 f0:Up L 0→x 48=v
 f1:Up L 1→fY w cur 64 (x 49)
 f3:Up L 3→x 51=.pointer (some ⟨bx,3,none⟩)
 f4:Up L 4→x 52=.string nm
 st:(¬Up L 2∧¬Up L 5∧cur=v∧l=r)∨(Up L 2∧¬Up L 5∧x 50=cur∧(fun l=>l=r++[64]) l)∨(Up L 5∧x 53=cur∧(fun l=>l=r++[64]++nm.data.toList) l)
 fz:Up L 6→x 4=x 53
 chn:Chn B w0 v w cur l
theorem I6 {ops:Array Oper} {id:Nat} {Q:Exit→Act→World→Prop} {a:Act} {w:World} {v:Value} {r:List UInt8} {B:Nat} {bx:Nat} {row:Obj} {nm:ByteArray}
  (p0:cj ops 0 (.move (.tmp 0)) 48 [])
  (p1:cj ops 1 (.buildSlice 48 1 #[(0,.const (.int .u8 64))]) 49 [])
  (p2:cj ops 2 (.call {callee:=.builtin .append,args:= #[.tmp 48,.tmp 49],argTypes:= #[48,48]}) 50 [0,1])
  (p3:cj ops 3 (.fieldAddr 27 (.tmp 3) 3) 51 [])
  (p4:cj ops 4 (.load 9 (.tmp 51)) 52 [3])
  (p5:cj ops 5 (.call {callee:=.builtin .append,args:= #[.tmp 50,.tmp 52],argTypes:= #[48,9]}) 53 [2,4])
  (p6:cj ops 6 (.assign (.tmp 53)) 4 [0,1,2,3,4,5])
  (hn:ops.size=7) (ay:a.tmps.size=65) (h0:a.eval (.tmp 0)=v) (hv:aZ w B v r) (hB:B≤w.heap.size)
  (hr:r.length+140000≤100000000) (h3:a.eval (.tmp 3)=.pointer (some ⟨bx,0,none⟩)) (am:w.heap[bx]? =some row) (lY:some bx≠v.ownBlock) (dm:nm.size≤16) (pd:∀W,(Instr.fieldAt 27 (.pointer (some ⟨bx,0,none⟩)) 3).run prog W=.ok (.pointer (some ⟨bx,3,none⟩)) W) (oZ:∀W:World,W.heap[bx]? =some row→(Instr.loadAt 9 (.pointer (some ⟨bx,3,none⟩))).run prog W=.ok (.string nm) W)
  (hQ:∀x w2 v2 l2,aZ w2 B v2 l2→(fun l=>l=r++[64]++nm.data.toList) l2→Ext w w2 v v2→x 4=v2→Q .normal (fl a [48,49,50,51,52,53,4] x) w2):(Code.region id ops true).wp prog Q a w:=by
 refine ud (I:=fun L a' w'=>∃x cur l,a'=fl a [48,49,50,51,52,53,4] x∧CurF B w v r bx nm L x w' cur l) rfl ?_ ?_ ?_
 ·have hd:Below w.heap.size w w.drew:=(aV _ _).drew
  exact⟨fun d=>a.eval (.tmp d),v,r,(sW _ a).symm,by rw[hn];rfl,fun h=>absurd h cz,fun h=>absurd h cz,fun h=>absurd h cz,fun h=>absurd h cz,.inl ⟨cz,cz,rfl,rfl⟩,fun h=>absurd h cz,hv.later hd,Ext.below v hd⟩
 ·rintro L a' w' i ⟨x,cur,l,rfl,H⟩ hsh hi
  have hs:=H.size;have au:i < 7:=by
   obtain⟨-,o,ho, -⟩:=ol.1 hi;have:=(bC.1 ho).1;omega
  have ag:i < L.size:=by rw[hs];exact au
  have hS:(L.setIfInBounds i true).size=7:=by simp[hs]
  have cw:B≤w'.heap.size:=bv hB H.chn.ext.grown.size;rcases (show i=0∨i=1∨i=2∨i=3∨i=4∨i=5∨i=6 by omega) with rfl | rfl | rfl | rfl | rfl | rfl | rfl
  ·obtain⟨hu,hd⟩:=cD p0 hi
   refine cF p0 fun o ho aM=>ux ho ?_
   refine⟨bS x 48 v,cur,l,by rw[aM,(kV [48,49,50,51,52,53,4] a x (t:=0) (by decide)),h0,lB _ _ _ _ _ (by decide) (by decide)],hS,fun _=>cy _ _ _,us ag H.f1,uk ag H.f3,uk ag H.f4, ?_,uz ag H.fz,H.chn⟩
   ·simpa only[bR ag,(nd:¬2=0),(nd:¬5=0),eh,uo x 50 48,uo x 53 48] using H.st
  ·obtain⟨hu,hd⟩:=cD p1 hi
   refine cF p1 fun o ho aM=>rM 64 ho ?_
   have hb:Below w'.heap.size w' (w'.alloc (.cells #[.int .u8 (((64:UInt8).toNat:Nat):Int)] 5)):=ba _;refine⟨bS x 49 (.slice (some ⟨w'.heap.size,0,none⟩) 1 1),cur,l,fp aM,hS,uk ag H.f0,fun _=>by rw[cy];exact fY.new H.chn.row 64,uk ag H.f3,uk ag H.f4, ?_,uz ag H.fz,H.chn.below hb⟩
   ·simpa only[bR ag,(nd:¬2=1),(nd:¬5=1),eh,uo x 50 49,uo x 53 49] using H.st
  ·obtain⟨hu,hd⟩:=cD p2 hi
   rcases H.st with ⟨s2,s5,rfl,rfl⟩ | ⟨s2, -⟩ | ⟨s5, -⟩
   ·obtain⟨g,hg,aS,tI⟩:=H.f1 (hd 1 (by decide))
    refine cF p2 fun o ho aM=>rN (.tmp 48) (.tmp 49) ho (fe ay (H.f0 (hd 0 (by decide)))) (fe ay (hg)) H.chn.row aS cw (by omega) ?_
    intro v' w2 hb2 he2;refine⟨bS x 50 v',v',_,fp aM,hS,uk ag H.f0,fun h=>(ut ag H.f1 h).next he2,uk ag H.f3,uk ag H.f4,.inr (.inl ⟨(bR ag).2 (.inl rfl),fun h=>s5 (gz ag h),cy _ _ _,rfl⟩),uz ag H.fz,H.chn.next hb2 he2⟩
   ·exact absurd s2 hu
   ·exact absurd (fv p5 hsh s5 2 (by decide)) hu
  ·obtain⟨hu,hd⟩:=cD p3 hi
   refine cF p3 fun o ho aM=>wj ho (by rw[(kV [48,49,50,51,52,53,4] a x (t:=3) (by decide))];exact h3) (pd w') ?_
   refine⟨bS x 51 (.pointer (some ⟨bx,3,none⟩)),cur,l,fp aM,hS,uk ag H.f0,us ag H.f1,fun _=>cy _ _ _,uk ag H.f4, ?_,uz ag H.fz,H.chn⟩
   ·simpa only[bR ag,(nd:¬2=3),(nd:¬5=3),eh,uo x 50 51,uo x 53 51] using H.st
  ·obtain⟨hu,hd⟩:=cD p4 hi
   refine cF p4 fun o ho aM=>rU ho (fe ay (H.f3 (hd 3 (by decide)))) (oZ w' (H.chn.ext.row lY am)) ?_
   refine⟨bS x 52 (.string nm),cur,l,fp aM,hS,uk ag H.f0,us ag H.f1,uk ag H.f3,fun _=>cy _ _ _, ?_,uz ag H.fz,H.chn⟩
   ·simpa only[bR ag,(nd:¬2=4),(nd:¬5=4),eh,uo x 50 52,uo x 53 52] using H.st
  ·obtain⟨hu,hd⟩:=cD p5 hi
   rcases H.st with ⟨s2, -⟩ | ⟨s2,s5,hx,hl⟩ | ⟨s5, -⟩
   ·exact absurd (hd 2 (by decide)) s2
   ·refine cF p5 fun o ho aM=>vV (.tmp 50) (.tmp 52) ho (fe ay (hx)) (fe ay (H.f4 (hd 4 (by decide)))) H.chn.row cw (by rw[hl,be,List.length_singleton];omega) ?_
    intro v' w2 hb2 he2;refine⟨bS x 53 v',v',_,fp aM,hS,uk ag H.f0,fun h=>(ut ag H.f1 h).next he2,uk ag H.f3,uk ag H.f4,.inr (.inr (⟨(bR ag).2 (.inl rfl),cy _ _ _,by rw[hl]⟩)),fun h=>absurd (fv p6 hsh (gz ag h) 5 (by decide)) hu,H.chn.next hb2 he2⟩
   ·exact absurd s5 hu
  ·obtain⟨hu,hd⟩:=cD p6 hi
   refine cF p6 fun o ho aM=>uy ho ?_
   refine⟨bS x 4 (x 53),cur,l,by rw[aM,(jI [48,49,50,51,52,53,4] a x (d:=53) (by decide) (by decide) (by rw[ay];decide)),lB _ _ _ _ _ (by decide) (by decide)],hS,uk ag H.f0,us ag H.f1,uk ag H.f3,uk ag H.f4, ?_,fun _=>by rw[cy,jV (by decide)],H.chn⟩
   ·simpa only[bR ag,(nd:¬2=6),(nd:¬5=6),eh,uo x 50 4,uo x 53 4] using H.st
 ·rintro L a' w' ⟨x,cur,l,rfl,H⟩ cf
  have hs:=H.size;have u0:=cE p0 cf (by omega) (by simp)
  have u1:=cE p1 cf (by omega) (by simp)
  have u2:=cE p2 cf (by omega) (mc u0 (mc u1 mn))
  have u3:=cE p3 cf (by omega) (by simp)
  have u4:=cE p4 cf (by omega) (mc u3 mn)
  have u5:=cE p5 cf (by omega) (mc u2 (mc u4 mn))
  have u6:=cE p6 cf (by omega) (mc u0 (mc u1 (mc u2 (mc u3 (mc u4 (mc u5 mn))))))
  rcases H.st with ⟨-,sz, -⟩ | ⟨-,sz, -⟩ | ⟨-,hx,hl⟩
  ·exact absurd u5 sz
  ·exact absurd u5 sz
  ·exact hQ x w' cur l H.chn.row hl H.chn.ext ((H.fz u6).trans hx)
structure CalF (B:Nat) (w0:World) (v:Value) (r:List UInt8) (bx:Nat) (nm:ByteArray) (L:Array Bool) (x:Nat→Value) (w:World) (cur:Value) (l:List UInt8):Prop where
 size:L.size=7
 f0:Up L 0→x 56=v
 f1:Up L 1→fY w cur 42 (x 57)
 f3:Up L 3→x 59=.pointer (some ⟨bx,3,none⟩)
 f4:Up L 4→x 60=.string nm
 st:(¬Up L 2∧¬Up L 5∧cur=v∧l=r)∨(Up L 2∧¬Up L 5∧x 58=cur∧(fun l=>l=r++[42]) l)∨(Up L 5∧x 61=cur∧(fun l=>l=r++[42]++nm.data.toList) l)
 fz:Up L 6→x 4=x 61
 chn:Chn B w0 v w cur l
theorem I9 {ops:Array Oper} {id:Nat} {Q:Exit→Act→World→Prop} {a:Act} {w:World} {v:Value} {r:List UInt8} {B:Nat} {bx:Nat} {row:Obj} {nm:ByteArray}
  (p0:cj ops 0 (.move (.tmp 0)) 56 [])
  (p1:cj ops 1 (.buildSlice 48 1 #[(0,.const (.int .u8 42))]) 57 [])
  (p2:cj ops 2 (.call {callee:=.builtin .append,args:= #[.tmp 56,.tmp 57],argTypes:= #[48,48]}) 58 [0,1])
  (p3:cj ops 3 (.fieldAddr 27 (.tmp 3) 3) 59 [])
  (p4:cj ops 4 (.load 9 (.tmp 59)) 60 [3])
  (p5:cj ops 5 (.call {callee:=.builtin .append,args:= #[.tmp 58,.tmp 60],argTypes:= #[48,9]}) 61 [2,4])
  (p6:cj ops 6 (.assign (.tmp 61)) 4 [0,1,2,3,4,5])
  (hn:ops.size=7) (ay:a.tmps.size=65) (h0:a.eval (.tmp 0)=v) (hv:aZ w B v r) (hB:B≤w.heap.size)
  (hr:r.length+140000≤100000000) (h3:a.eval (.tmp 3)=.pointer (some ⟨bx,0,none⟩)) (am:w.heap[bx]? =some row) (lY:some bx≠v.ownBlock) (dm:nm.size≤16) (pd:∀W,(Instr.fieldAt 27 (.pointer (some ⟨bx,0,none⟩)) 3).run prog W=.ok (.pointer (some ⟨bx,3,none⟩)) W) (oZ:∀W:World,W.heap[bx]? =some row→(Instr.loadAt 9 (.pointer (some ⟨bx,3,none⟩))).run prog W=.ok (.string nm) W)
  (hQ:∀x w2 v2 l2,aZ w2 B v2 l2→(fun l=>l=r++[42]++nm.data.toList) l2→Ext w w2 v v2→x 4=v2→Q .normal (fl a [56,57,58,59,60,61,4] x) w2):(Code.region id ops true).wp prog Q a w:=by
 refine ud (I:=fun L a' w'=>∃x cur l,a'=fl a [56,57,58,59,60,61,4] x∧CalF B w v r bx nm L x w' cur l) rfl ?_ ?_ ?_
 ·have hd:Below w.heap.size w w.drew:=(aV _ _).drew
  exact⟨fun d=>a.eval (.tmp d),v,r,(sW _ a).symm,by rw[hn];rfl,fun h=>absurd h cz,fun h=>absurd h cz,fun h=>absurd h cz,fun h=>absurd h cz,.inl ⟨cz,cz,rfl,rfl⟩,fun h=>absurd h cz,hv.later hd,Ext.below v hd⟩
 ·rintro L a' w' i ⟨x,cur,l,rfl,H⟩ hsh hi
  have hs:=H.size;have au:i < 7:=by
   obtain⟨-,o,ho, -⟩:=ol.1 hi;have:=(bC.1 ho).1;omega
  have ag:i < L.size:=by rw[hs];exact au
  have hS:(L.setIfInBounds i true).size=7:=by simp[hs]
  have cw:B≤w'.heap.size:=bv hB H.chn.ext.grown.size;rcases (show i=0∨i=1∨i=2∨i=3∨i=4∨i=5∨i=6 by omega) with rfl | rfl | rfl | rfl | rfl | rfl | rfl
  ·obtain⟨hu,hd⟩:=cD p0 hi
   refine cF p0 fun o ho aM=>ux ho ?_
   refine⟨bS x 56 v,cur,l,by rw[aM,(kV [56,57,58,59,60,61,4] a x (t:=0) (by decide)),h0,lB _ _ _ _ _ (by decide) (by decide)],hS,fun _=>cy _ _ _,us ag H.f1,uk ag H.f3,uk ag H.f4, ?_,uz ag H.fz,H.chn⟩
   ·simpa only[bR ag,(nd:¬2=0),(nd:¬5=0),eh,uo x 58 56,uo x 61 56] using H.st
  ·obtain⟨hu,hd⟩:=cD p1 hi
   refine cF p1 fun o ho aM=>rM 42 ho ?_
   have hb:Below w'.heap.size w' (w'.alloc (.cells #[.int .u8 (((42:UInt8).toNat:Nat):Int)] 5)):=ba _;refine⟨bS x 57 (.slice (some ⟨w'.heap.size,0,none⟩) 1 1),cur,l,fp aM,hS,uk ag H.f0,fun _=>by rw[cy];exact fY.new H.chn.row 42,uk ag H.f3,uk ag H.f4, ?_,uz ag H.fz,H.chn.below hb⟩
   ·simpa only[bR ag,(nd:¬2=1),(nd:¬5=1),eh,uo x 58 57,uo x 61 57] using H.st
  ·obtain⟨hu,hd⟩:=cD p2 hi
   rcases H.st with ⟨s2,s5,rfl,rfl⟩ | ⟨s2, -⟩ | ⟨s5, -⟩
   ·obtain⟨g,hg,aS,tI⟩:=H.f1 (hd 1 (by decide))
    refine cF p2 fun o ho aM=>rN (.tmp 56) (.tmp 57) ho (fe ay (H.f0 (hd 0 (by decide)))) (fe ay (hg)) H.chn.row aS cw (by omega) ?_
    intro v' w2 hb2 he2;refine⟨bS x 58 v',v',_,fp aM,hS,uk ag H.f0,fun h=>(ut ag H.f1 h).next he2,uk ag H.f3,uk ag H.f4,.inr (.inl ⟨(bR ag).2 (.inl rfl),fun h=>s5 (gz ag h),cy _ _ _,rfl⟩),uz ag H.fz,H.chn.next hb2 he2⟩
   ·exact absurd s2 hu
   ·exact absurd (fv p5 hsh s5 2 (by decide)) hu
  ·obtain⟨hu,hd⟩:=cD p3 hi
   refine cF p3 fun o ho aM=>wj ho (by rw[(kV [56,57,58,59,60,61,4] a x (t:=3) (by decide))];exact h3) (pd w') ?_
   refine⟨bS x 59 (.pointer (some ⟨bx,3,none⟩)),cur,l,fp aM,hS,uk ag H.f0,us ag H.f1,fun _=>cy _ _ _,uk ag H.f4, ?_,uz ag H.fz,H.chn⟩
   ·simpa only[bR ag,(nd:¬2=3),(nd:¬5=3),eh,uo x 58 59,uo x 61 59] using H.st
  ·obtain⟨hu,hd⟩:=cD p4 hi
   refine cF p4 fun o ho aM=>rU ho (fe ay (H.f3 (hd 3 (by decide)))) (oZ w' (H.chn.ext.row lY am)) ?_
   refine⟨bS x 60 (.string nm),cur,l,fp aM,hS,uk ag H.f0,us ag H.f1,uk ag H.f3,fun _=>cy _ _ _, ?_,uz ag H.fz,H.chn⟩
   ·simpa only[bR ag,(nd:¬2=4),(nd:¬5=4),eh,uo x 58 60,uo x 61 60] using H.st
  ·obtain⟨hu,hd⟩:=cD p5 hi
   rcases H.st with ⟨s2, -⟩ | ⟨s2,s5,hx,hl⟩ | ⟨s5, -⟩
   ·exact absurd (hd 2 (by decide)) s2
   ·refine cF p5 fun o ho aM=>vV (.tmp 58) (.tmp 60) ho (fe ay (hx)) (fe ay (H.f4 (hd 4 (by decide)))) H.chn.row cw (by rw[hl,be,List.length_singleton];omega) ?_
    intro v' w2 hb2 he2;refine⟨bS x 61 v',v',_,fp aM,hS,uk ag H.f0,fun h=>(ut ag H.f1 h).next he2,uk ag H.f3,uk ag H.f4,.inr (.inr (⟨(bR ag).2 (.inl rfl),cy _ _ _,by rw[hl]⟩)),fun h=>absurd (fv p6 hsh (gz ag h) 5 (by decide)) hu,H.chn.next hb2 he2⟩
   ·exact absurd s5 hu
  ·obtain⟨hu,hd⟩:=cD p6 hi
   refine cF p6 fun o ho aM=>uy ho ?_
   refine⟨bS x 4 (x 61),cur,l,by rw[aM,(jI [56,57,58,59,60,61,4] a x (d:=61) (by decide) (by decide) (by rw[ay];decide)),lB _ _ _ _ _ (by decide) (by decide)],hS,uk ag H.f0,us ag H.f1,uk ag H.f3,uk ag H.f4, ?_,fun _=>by rw[cy,jV (by decide)],H.chn⟩
   ·simpa only[bR ag,(nd:¬2=6),(nd:¬5=6),eh,uo x 58 4,uo x 61 4] using H.st
 ·rintro L a' w' ⟨x,cur,l,rfl,H⟩ cf
  have hs:=H.size;have u0:=cE p0 cf (by omega) (by simp)
  have u1:=cE p1 cf (by omega) (by simp)
  have u2:=cE p2 cf (by omega) (mc u0 (mc u1 mn))
  have u3:=cE p3 cf (by omega) (by simp)
  have u4:=cE p4 cf (by omega) (mc u3 mn)
  have u5:=cE p5 cf (by omega) (mc u2 (mc u4 mn))
  have u6:=cE p6 cf (by omega) (mc u0 (mc u1 (mc u2 (mc u3 (mc u4 (mc u5 mn))))))
  rcases H.st with ⟨-,sz, -⟩ | ⟨-,sz, -⟩ | ⟨-,hx,hl⟩
  ·exact absurd u5 sz
  ·exact absurd u5 sz
  ·exact hQ x w' cur l H.chn.row hl H.chn.ext ((H.fz u6).trans hx)
structure CndF (B:Nat) (w0:World) (v:Value) (r:List UInt8) (bx:Nat) (nm:ByteArray) (pat:Value) (M:List UInt8→Prop) (L:Array Bool) (x:Nat→Value) (w:World) (cur:Value) (l:List UInt8):Prop where
 size:L.size=8
 f0:Up L 0→x 30=v
 f1:Up L 1→x 31=pat
 f4:Up L 4→x 34=.pointer (some ⟨bx,3,none⟩)
 f5:Up L 5→x 35=.string nm
 st:(¬Up L 2∧¬Up L 3∧¬Up L 6∧cur=v∧l=r)∨(Up L 2∧¬Up L 3∧¬Up L 6∧x 32=cur∧(M) l)∨(Up L 3∧¬Up L 6∧x 33=cur∧(fun l=>∃l0,M l0∧l=l0++[32,46,32]) l)∨(Up L 6∧x 36=cur∧(fun l=>∃l0,M l0∧l=l0++[32,46,32]++nm.data.toList) l)
 fz:Up L 7→x 4=x 36
 chn:Chn B w0 v w cur l
theorem I7 {ops:Array Oper} {id:Nat} {Q:Exit→Act→World→Prop} {a:Act} {w:World} {v:Value} {r:List UInt8} {B:Nat} {bx:Nat} {row:Obj} {nm:ByteArray} {pat:Value} {M:List UInt8→Prop}
  (p0:cj ops 0 (.move (.tmp 0)) 30 [])
  (p1:cj ops 1 (.load 27 (.tmp 3)) 31 [])
  (p2:cj ops 2 (.call {callee:=.value (.func 77),args:= #[.tmp 30,.tmp 31,.const (.string ⟨#[]⟩)],argTypes:= #[48,27,9]}) 32 [0,1])
  (p3:cj ops 3 (.call {callee:=.builtin .append,args:= #[.tmp 32,.const (.string ⟨#[32,46,32]⟩)],argTypes:= #[48,9]}) 33 [2])
  (p4:cj ops 4 (.fieldAddr 27 (.tmp 3) 3) 34 [])
  (p5:cj ops 5 (.load 9 (.tmp 34)) 35 [4])
  (p6:cj ops 6 (.call {callee:=.builtin .append,args:= #[.tmp 33,.tmp 35],argTypes:= #[48,9]}) 36 [3,5])
  (p7:cj ops 7 (.assign (.tmp 36)) 4 [0,1,2,3,4,5,6])
  (hn:ops.size=8) (ay:a.tmps.size=65) (h0:a.eval (.tmp 0)=v) (hv:aZ w B v r) (hB:B≤w.heap.size)
  (hr:r.length+140000≤100000000) (h3:a.eval (.tmp 3)=.pointer (some ⟨bx,0,none⟩)) (am:w.heap[bx]? =some row) (lY:some bx≠v.ownBlock) (dm:nm.size≤16) (pd:∀W,(Instr.fieldAt 27 (.pointer (some ⟨bx,0,none⟩)) 3).run prog W=.ok (.pointer (some ⟨bx,3,none⟩)) W) (oZ:∀W:World,W.heap[bx]? =some row→(Instr.loadAt 9 (.pointer (some ⟨bx,3,none⟩))).run prog W=.ok (.string nm) W) (hlp:∀W:World,W.heap[bx]? =some row→(Instr.loadAt 27 (.pointer (some ⟨bx,0,none⟩))).run prog W=.ok pat W) (hM:∀l,M l→l.length+100≤100000000)
  (hC:∀w1,aZ w1 B v r→Ext w w1 v v→Calls prog 77 #[v,pat,.string ⟨#[]⟩] w1 fun e w2=>∃v2,e=.returned v2∧∃r2,aZ w2 B v2 r2∧Ext w1 w2 v v2∧M r2)
  (hQ:∀x w2 v2 l2,aZ w2 B v2 l2→(fun l=>∃l0,M l0∧l=l0++[32,46,32]++nm.data.toList) l2→Ext w w2 v v2→x 4=v2→Q .normal (fl a [30,31,32,33,34,35,36,4] x) w2):(Code.region id ops true).wp prog Q a w:=by
 refine ud (I:=fun L a' w'=>∃x cur l,a'=fl a [30,31,32,33,34,35,36,4] x∧CndF B w v r bx nm pat M L x w' cur l) rfl ?_ ?_ ?_
 ·have hd:Below w.heap.size w w.drew:=(aV _ _).drew
  exact⟨fun d=>a.eval (.tmp d),v,r,(sW _ a).symm,by rw[hn];rfl,fun h=>absurd h cz,fun h=>absurd h cz,fun h=>absurd h cz,fun h=>absurd h cz,.inl ⟨cz,cz,cz,rfl,rfl⟩,fun h=>absurd h cz,hv.later hd,Ext.below v hd⟩
 ·rintro L a' w' i ⟨x,cur,l,rfl,H⟩ hsh hi
  have hs:=H.size;have au:i < 8:=by
   obtain⟨-,o,ho, -⟩:=ol.1 hi;have:=(bC.1 ho).1;omega
  have ag:i < L.size:=by rw[hs];exact au
  have hS:(L.setIfInBounds i true).size=8:=by simp[hs]
  have cw:B≤w'.heap.size:=bv hB H.chn.ext.grown.size;rcases (show i=0∨i=1∨i=2∨i=3∨i=4∨i=5∨i=6∨i=7 by omega) with rfl | rfl | rfl | rfl | rfl | rfl | rfl | rfl
  ·obtain⟨hu,hd⟩:=cD p0 hi
   refine cF p0 fun o ho aM=>ux ho ?_
   refine⟨bS x 30 v,cur,l,by rw[aM,(kV [30,31,32,33,34,35,36,4] a x (t:=0) (by decide)),h0,lB _ _ _ _ _ (by decide) (by decide)],hS,fun _=>cy _ _ _,uk ag H.f1,uk ag H.f4,uk ag H.f5, ?_,uz ag H.fz,H.chn⟩
   ·simpa only[bR ag,(nd:¬2=0),(nd:¬3=0),(nd:¬6=0),eh,uo x 32 30,uo x 33 30,uo x 36 30] using H.st
  ·obtain⟨hu,hd⟩:=cD p1 hi
   refine cF p1 fun o ho aM=>rU ho (by rw[(kV [30,31,32,33,34,35,36,4] a x (t:=3) (by decide))];exact h3) (hlp w' (H.chn.ext.row lY am)) ?_
   refine⟨bS x 31 (pat),cur,l,fp aM,hS,uk ag H.f0,fun _=>cy _ _ _,uk ag H.f4,uk ag H.f5, ?_,uz ag H.fz,H.chn⟩
   ·simpa only[bR ag,(nd:¬2=1),(nd:¬3=1),(nd:¬6=1),eh,uo x 32 31,uo x 33 31,uo x 36 31] using H.st
  ·obtain⟨hu,hd⟩:=cD p2 hi
   rcases H.st with ⟨s2,s3,s6,rfl,rfl⟩ | ⟨s2, -⟩ | ⟨s3, -⟩ | ⟨s6, -⟩
   ·refine cF p2 fun o ho aM=>xr ho func77 rfl rfl _ (by simp only[oh,fM,jM];rw[(jI [30,31,32,33,34,35,36,4] a x (d:=30) (by decide) (by decide) (by rw[ay];decide)),(jI [30,31,32,33,34,35,36,4] a x (d:=31) (by decide) (by decide) (by rw[ay];decide)),H.f0 (hd 0 (by decide)),H.f1 (hd 1 (by decide))];rfl) ((hC w' H.chn.row H.chn.ext).mono ?_)
    rintro e w2 ⟨v2,rfl,r2,hb2,he2,oY⟩;refine⟨v2,rfl,bS x 32 v2,v2,r2,fp aM,hS,uk ag H.f0,uk ag H.f1,uk ag H.f4,uk ag H.f5,.inr (.inl ⟨(bR ag).2 (.inl rfl),fun h=>s3 (gz ag h),fun h=>s6 (gz ag h),cy _ _ _,oY⟩),uz ag H.fz,H.chn.next hb2 he2⟩
   ·exact absurd s2 hu
   ·exact absurd (fv p3 hsh s3 2 (by decide)) hu
   ·exact absurd (fv p3 hsh (fv p6 hsh s6 3 (by decide)) 2 (by decide)) hu
  ·obtain⟨hu,hd⟩:=cD p3 hi
   rcases H.st with ⟨s2, -⟩ | ⟨s2,s3,s6,hx,hl⟩ | ⟨s3, -⟩ | ⟨s6, -⟩
   ·exact absurd (hd 2 (by decide)) s2
   ·refine cF p3 fun o ho aM=>vV (.tmp 32) (.const (.string ⟨#[32,46,32]⟩)) ho (fe ay (hx)) rfl H.chn.row cw (by have:=hM l hl;show l.length+3≤_;omega) ?_
    intro v' w2 hb2 he2;refine⟨bS x 33 v',v',_,fp aM,hS,uk ag H.f0,uk ag H.f1,uk ag H.f4,uk ag H.f5,.inr (.inr (.inl ⟨(bR ag).2 (.inl rfl),fun h=>s6 (gz ag h),cy _ _ _,⟨l,hl,rfl⟩⟩)),uz ag H.fz,H.chn.next hb2 he2⟩
   ·exact absurd s3 hu
   ·exact absurd (fv p6 hsh s6 3 (by decide)) hu
  ·obtain⟨hu,hd⟩:=cD p4 hi
   refine cF p4 fun o ho aM=>wj ho (by rw[(kV [30,31,32,33,34,35,36,4] a x (t:=3) (by decide))];exact h3) (pd w') ?_
   refine⟨bS x 34 (.pointer (some ⟨bx,3,none⟩)),cur,l,fp aM,hS,uk ag H.f0,uk ag H.f1,fun _=>cy _ _ _,uk ag H.f5, ?_,uz ag H.fz,H.chn⟩
   ·simpa only[bR ag,(nd:¬2=4),(nd:¬3=4),(nd:¬6=4),eh,uo x 32 34,uo x 33 34,uo x 36 34] using H.st
  ·obtain⟨hu,hd⟩:=cD p5 hi
   refine cF p5 fun o ho aM=>rU ho (fe ay (H.f4 (hd 4 (by decide)))) (oZ w' (H.chn.ext.row lY am)) ?_
   refine⟨bS x 35 (.string nm),cur,l,fp aM,hS,uk ag H.f0,uk ag H.f1,uk ag H.f4,fun _=>cy _ _ _, ?_,uz ag H.fz,H.chn⟩
   ·simpa only[bR ag,(nd:¬2=5),(nd:¬3=5),(nd:¬6=5),eh,uo x 32 35,uo x 33 35,uo x 36 35] using H.st
  ·obtain⟨hu,hd⟩:=cD p6 hi
   rcases H.st with ⟨-,s3, -⟩ | ⟨-,s3, -⟩ | ⟨s3,s6,hx,hl⟩ | ⟨s6, -⟩
   ·exact absurd (hd 3 (by decide)) s3
   ·exact absurd (hd 3 (by decide)) s3
   ·refine cF p6 fun o ho aM=>vV (.tmp 33) (.tmp 35) ho (fe ay (hx)) (fe ay (H.f5 (hd 5 (by decide)))) H.chn.row cw (by obtain⟨l0,h0,e0⟩:=hl;have:=hM l0 h0;rw[e0,be];show l0.length+3+nm.size≤_;omega) ?_
    intro v' w2 hb2 he2;refine⟨bS x 36 v',v',_,fp aM,hS,uk ag H.f0,uk ag H.f1,uk ag H.f4,uk ag H.f5,.inr (.inr (.inr (⟨(bR ag).2 (.inl rfl),cy _ _ _,by obtain⟨l0,h0,e0⟩:=hl;exact⟨l0,h0,by rw[e0]⟩⟩))),fun h=>absurd (fv p7 hsh (gz ag h) 6 (by decide)) hu,H.chn.next hb2 he2⟩
   ·exact absurd s6 hu
  ·obtain⟨hu,hd⟩:=cD p7 hi
   refine cF p7 fun o ho aM=>uy ho ?_
   refine⟨bS x 4 (x 36),cur,l,by rw[aM,(jI [30,31,32,33,34,35,36,4] a x (d:=36) (by decide) (by decide) (by rw[ay];decide)),lB _ _ _ _ _ (by decide) (by decide)],hS,uk ag H.f0,uk ag H.f1,uk ag H.f4,uk ag H.f5, ?_,fun _=>by rw[cy,jV (by decide)],H.chn⟩
   ·simpa only[bR ag,(nd:¬2=7),(nd:¬3=7),(nd:¬6=7),eh,uo x 32 4,uo x 33 4,uo x 36 4] using H.st
 ·rintro L a' w' ⟨x,cur,l,rfl,H⟩ cf
  have hs:=H.size;have u0:=cE p0 cf (by omega) (by simp)
  have u1:=cE p1 cf (by omega) (by simp)
  have u2:=cE p2 cf (by omega) (mc u0 (mc u1 mn))
  have u3:=cE p3 cf (by omega) (mc u2 mn)
  have u4:=cE p4 cf (by omega) (by simp)
  have u5:=cE p5 cf (by omega) (mc u4 mn)
  have u6:=cE p6 cf (by omega) (mc u3 (mc u5 mn))
  have u7:=cE p7 cf (by omega) (mc u0 (mc u1 (mc u2 (mc u3 (mc u4 (mc u5 (mc u6 mn)))))))
  rcases H.st with ⟨-, -,sz, -⟩ | ⟨-, -,sz, -⟩ | ⟨-,sz, -⟩ | ⟨-,hx,hl⟩
  ·exact absurd u6 sz
  ·exact absurd u6 sz
  ·exact absurd u6 sz
  ·exact hQ x w' cur l H.chn.row hl H.chn.ext ((H.fz u7).trans hx)
structure ImmF (B:Nat) (w0:World) (v:Value) (r:List UInt8) (bx:Nat) (nm:ByteArray) (pat:Value) (M:List UInt8→Prop) (L:Array Bool) (x:Nat→Value) (w:World) (cur:Value) (l:List UInt8):Prop where
 size:L.size=8
 f0:Up L 0→x 39=v
 f1:Up L 1→x 40=pat
 f4:Up L 4→x 43=.pointer (some ⟨bx,3,none⟩)
 f5:Up L 5→x 44=.string nm
 st:(¬Up L 2∧¬Up L 3∧¬Up L 6∧cur=v∧l=r)∨(Up L 2∧¬Up L 3∧¬Up L 6∧x 41=cur∧(M) l)∨(Up L 3∧¬Up L 6∧x 42=cur∧(fun l=>∃l0,M l0∧l=l0++[32,36,32]) l)∨(Up L 6∧x 45=cur∧(fun l=>∃l0,M l0∧l=l0++[32,36,32]++nm.data.toList) l)
 fz:Up L 7→x 4=x 45
 chn:Chn B w0 v w cur l
theorem I3 {ops:Array Oper} {id:Nat} {Q:Exit→Act→World→Prop} {a:Act} {w:World} {v:Value} {r:List UInt8} {B:Nat} {bx:Nat} {row:Obj} {nm:ByteArray} {pat:Value} {M:List UInt8→Prop}
  (p0:cj ops 0 (.move (.tmp 0)) 39 [])
  (p1:cj ops 1 (.load 27 (.tmp 3)) 40 [])
  (p2:cj ops 2 (.call {callee:=.value (.func 77),args:= #[.tmp 39,.tmp 40,.const (.string ⟨#[]⟩)],argTypes:= #[48,27,9]}) 41 [0,1])
  (p3:cj ops 3 (.call {callee:=.builtin .append,args:= #[.tmp 41,.const (.string ⟨#[32,36,32]⟩)],argTypes:= #[48,9]}) 42 [2])
  (p4:cj ops 4 (.fieldAddr 27 (.tmp 3) 3) 43 [])
  (p5:cj ops 5 (.load 9 (.tmp 43)) 44 [4])
  (p6:cj ops 6 (.call {callee:=.builtin .append,args:= #[.tmp 42,.tmp 44],argTypes:= #[48,9]}) 45 [3,5])
  (p7:cj ops 7 (.assign (.tmp 45)) 4 [0,1,2,3,4,5,6])
  (hn:ops.size=8) (ay:a.tmps.size=65) (h0:a.eval (.tmp 0)=v) (hv:aZ w B v r) (hB:B≤w.heap.size)
  (hr:r.length+140000≤100000000) (h3:a.eval (.tmp 3)=.pointer (some ⟨bx,0,none⟩)) (am:w.heap[bx]? =some row) (lY:some bx≠v.ownBlock) (dm:nm.size≤16) (pd:∀W,(Instr.fieldAt 27 (.pointer (some ⟨bx,0,none⟩)) 3).run prog W=.ok (.pointer (some ⟨bx,3,none⟩)) W) (oZ:∀W:World,W.heap[bx]? =some row→(Instr.loadAt 9 (.pointer (some ⟨bx,3,none⟩))).run prog W=.ok (.string nm) W) (hlp:∀W:World,W.heap[bx]? =some row→(Instr.loadAt 27 (.pointer (some ⟨bx,0,none⟩))).run prog W=.ok pat W) (hM:∀l,M l→l.length+100≤100000000)
  (hC:∀w1,aZ w1 B v r→Ext w w1 v v→Calls prog 77 #[v,pat,.string ⟨#[]⟩] w1 fun e w2=>∃v2,e=.returned v2∧∃r2,aZ w2 B v2 r2∧Ext w1 w2 v v2∧M r2)
  (hQ:∀x w2 v2 l2,aZ w2 B v2 l2→(fun l=>∃l0,M l0∧l=l0++[32,36,32]++nm.data.toList) l2→Ext w w2 v v2→x 4=v2→Q .normal (fl a [39,40,41,42,43,44,45,4] x) w2):(Code.region id ops true).wp prog Q a w:=by
 refine ud (I:=fun L a' w'=>∃x cur l,a'=fl a [39,40,41,42,43,44,45,4] x∧ImmF B w v r bx nm pat M L x w' cur l) rfl ?_ ?_ ?_
 ·have hd:Below w.heap.size w w.drew:=(aV _ _).drew
  exact⟨fun d=>a.eval (.tmp d),v,r,(sW _ a).symm,by rw[hn];rfl,fun h=>absurd h cz,fun h=>absurd h cz,fun h=>absurd h cz,fun h=>absurd h cz,.inl ⟨cz,cz,cz,rfl,rfl⟩,fun h=>absurd h cz,hv.later hd,Ext.below v hd⟩
 ·rintro L a' w' i ⟨x,cur,l,rfl,H⟩ hsh hi
  have hs:=H.size;have au:i < 8:=by
   obtain⟨-,o,ho, -⟩:=ol.1 hi;have:=(bC.1 ho).1;omega
  have ag:i < L.size:=by rw[hs];exact au
  have hS:(L.setIfInBounds i true).size=8:=by simp[hs]
  have cw:B≤w'.heap.size:=bv hB H.chn.ext.grown.size;rcases (show i=0∨i=1∨i=2∨i=3∨i=4∨i=5∨i=6∨i=7 by omega) with rfl | rfl | rfl | rfl | rfl | rfl | rfl | rfl
  ·obtain⟨hu,hd⟩:=cD p0 hi
   refine cF p0 fun o ho aM=>ux ho ?_
   refine⟨bS x 39 v,cur,l,by rw[aM,(kV [39,40,41,42,43,44,45,4] a x (t:=0) (by decide)),h0,lB _ _ _ _ _ (by decide) (by decide)],hS,fun _=>cy _ _ _,uk ag H.f1,uk ag H.f4,uk ag H.f5, ?_,uz ag H.fz,H.chn⟩
   ·simpa only[bR ag,(nd:¬2=0),(nd:¬3=0),(nd:¬6=0),eh,uo x 41 39,uo x 42 39,uo x 45 39] using H.st
  ·obtain⟨hu,hd⟩:=cD p1 hi
   refine cF p1 fun o ho aM=>rU ho (by rw[(kV [39,40,41,42,43,44,45,4] a x (t:=3) (by decide))];exact h3) (hlp w' (H.chn.ext.row lY am)) ?_
   refine⟨bS x 40 (pat),cur,l,fp aM,hS,uk ag H.f0,fun _=>cy _ _ _,uk ag H.f4,uk ag H.f5, ?_,uz ag H.fz,H.chn⟩
   ·simpa only[bR ag,(nd:¬2=1),(nd:¬3=1),(nd:¬6=1),eh,uo x 41 40,uo x 42 40,uo x 45 40] using H.st
  ·obtain⟨hu,hd⟩:=cD p2 hi
   rcases H.st with ⟨s2,s3,s6,rfl,rfl⟩ | ⟨s2, -⟩ | ⟨s3, -⟩ | ⟨s6, -⟩
   ·refine cF p2 fun o ho aM=>xr ho func77 rfl rfl _ (by simp only[oh,fM,jM];rw[(jI [39,40,41,42,43,44,45,4] a x (d:=39) (by decide) (by decide) (by rw[ay];decide)),(jI [39,40,41,42,43,44,45,4] a x (d:=40) (by decide) (by decide) (by rw[ay];decide)),H.f0 (hd 0 (by decide)),H.f1 (hd 1 (by decide))];rfl) ((hC w' H.chn.row H.chn.ext).mono ?_)
    rintro e w2 ⟨v2,rfl,r2,hb2,he2,oY⟩;refine⟨v2,rfl,bS x 41 v2,v2,r2,fp aM,hS,uk ag H.f0,uk ag H.f1,uk ag H.f4,uk ag H.f5,.inr (.inl ⟨(bR ag).2 (.inl rfl),fun h=>s3 (gz ag h),fun h=>s6 (gz ag h),cy _ _ _,oY⟩),uz ag H.fz,H.chn.next hb2 he2⟩
   ·exact absurd s2 hu
   ·exact absurd (fv p3 hsh s3 2 (by decide)) hu
   ·exact absurd (fv p3 hsh (fv p6 hsh s6 3 (by decide)) 2 (by decide)) hu
  ·obtain⟨hu,hd⟩:=cD p3 hi
   rcases H.st with ⟨s2, -⟩ | ⟨s2,s3,s6,hx,hl⟩ | ⟨s3, -⟩ | ⟨s6, -⟩
   ·exact absurd (hd 2 (by decide)) s2
   ·refine cF p3 fun o ho aM=>vV (.tmp 41) (.const (.string ⟨#[32,36,32]⟩)) ho (fe ay (hx)) rfl H.chn.row cw (by have:=hM l hl;show l.length+3≤_;omega) ?_
    intro v' w2 hb2 he2;refine⟨bS x 42 v',v',_,fp aM,hS,uk ag H.f0,uk ag H.f1,uk ag H.f4,uk ag H.f5,.inr (.inr (.inl ⟨(bR ag).2 (.inl rfl),fun h=>s6 (gz ag h),cy _ _ _,⟨l,hl,rfl⟩⟩)),uz ag H.fz,H.chn.next hb2 he2⟩
   ·exact absurd s3 hu
   ·exact absurd (fv p6 hsh s6 3 (by decide)) hu
  ·obtain⟨hu,hd⟩:=cD p4 hi
   refine cF p4 fun o ho aM=>wj ho (by rw[(kV [39,40,41,42,43,44,45,4] a x (t:=3) (by decide))];exact h3) (pd w') ?_
   refine⟨bS x 43 (.pointer (some ⟨bx,3,none⟩)),cur,l,fp aM,hS,uk ag H.f0,uk ag H.f1,fun _=>cy _ _ _,uk ag H.f5, ?_,uz ag H.fz,H.chn⟩
   ·simpa only[bR ag,(nd:¬2=4),(nd:¬3=4),(nd:¬6=4),eh,uo x 41 43,uo x 42 43,uo x 45 43] using H.st
  ·obtain⟨hu,hd⟩:=cD p5 hi
   refine cF p5 fun o ho aM=>rU ho (fe ay (H.f4 (hd 4 (by decide)))) (oZ w' (H.chn.ext.row lY am)) ?_
   refine⟨bS x 44 (.string nm),cur,l,fp aM,hS,uk ag H.f0,uk ag H.f1,uk ag H.f4,fun _=>cy _ _ _, ?_,uz ag H.fz,H.chn⟩
   ·simpa only[bR ag,(nd:¬2=5),(nd:¬3=5),(nd:¬6=5),eh,uo x 41 44,uo x 42 44,uo x 45 44] using H.st
  ·obtain⟨hu,hd⟩:=cD p6 hi
   rcases H.st with ⟨-,s3, -⟩ | ⟨-,s3, -⟩ | ⟨s3,s6,hx,hl⟩ | ⟨s6, -⟩
   ·exact absurd (hd 3 (by decide)) s3
   ·exact absurd (hd 3 (by decide)) s3
   ·refine cF p6 fun o ho aM=>vV (.tmp 42) (.tmp 44) ho (fe ay (hx)) (fe ay (H.f5 (hd 5 (by decide)))) H.chn.row cw (by obtain⟨l0,h0,e0⟩:=hl;have:=hM l0 h0;rw[e0,be];show l0.length+3+nm.size≤_;omega) ?_
    intro v' w2 hb2 he2;refine⟨bS x 45 v',v',_,fp aM,hS,uk ag H.f0,uk ag H.f1,uk ag H.f4,uk ag H.f5,.inr (.inr (.inr (⟨(bR ag).2 (.inl rfl),cy _ _ _,by obtain⟨l0,h0,e0⟩:=hl;exact⟨l0,h0,by rw[e0]⟩⟩))),fun h=>absurd (fv p7 hsh (gz ag h) 6 (by decide)) hu,H.chn.next hb2 he2⟩
   ·exact absurd s6 hu
  ·obtain⟨hu,hd⟩:=cD p7 hi
   refine cF p7 fun o ho aM=>uy ho ?_
   refine⟨bS x 4 (x 45),cur,l,by rw[aM,(jI [39,40,41,42,43,44,45,4] a x (d:=45) (by decide) (by decide) (by rw[ay];decide)),lB _ _ _ _ _ (by decide) (by decide)],hS,uk ag H.f0,uk ag H.f1,uk ag H.f4,uk ag H.f5, ?_,fun _=>by rw[cy,jV (by decide)],H.chn⟩
   ·simpa only[bR ag,(nd:¬2=7),(nd:¬3=7),(nd:¬6=7),eh,uo x 41 4,uo x 42 4,uo x 45 4] using H.st
 ·rintro L a' w' ⟨x,cur,l,rfl,H⟩ cf
  have hs:=H.size;have u0:=cE p0 cf (by omega) (by simp)
  have u1:=cE p1 cf (by omega) (by simp)
  have u2:=cE p2 cf (by omega) (mc u0 (mc u1 mn))
  have u3:=cE p3 cf (by omega) (mc u2 mn)
  have u4:=cE p4 cf (by omega) (by simp)
  have u5:=cE p5 cf (by omega) (mc u4 mn)
  have u6:=cE p6 cf (by omega) (mc u3 (mc u5 mn))
  have u7:=cE p7 cf (by omega) (mc u0 (mc u1 (mc u2 (mc u3 (mc u4 (mc u5 (mc u6 mn)))))))
  rcases H.st with ⟨-, -,sz, -⟩ | ⟨-, -,sz, -⟩ | ⟨-,sz, -⟩ | ⟨-,hx,hl⟩
  ·exact absurd u6 sz
  ·exact absurd u6 sz
  ·exact absurd u6 sz
  ·exact hQ x w' cur l H.chn.row hl H.chn.ext ((H.fz u7).trans hx)
end Go.Proofs.YtlmnjbipfacniaaGreatDoor
