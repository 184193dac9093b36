/- What pats.appendKids does, given what appendPat does of each -/
import Derived.Test.YtlmnjbipfacniaaGreatDoorPrintBrkAM
import Derived.Maps.RangeWalk
import Derived.Test.YtlmnjbipfacniaaGreatDoorPatRightM
import Derived.Test.YtlmnjbipfacniaaGreatDoorLxPlainM
set_option maxRecDepth 100000
set_option maxHeartbeats 4000000
namespace Go.Proofs.YtlmnjbipfacniaaGreatDoor
open Go.Proofs.Tryz
open Go.RowKit
set_option linter.unusedVariables false
structure Ready (W:World):Prop where
 shapes:dI W
 lim:∃m,W.cell? ⟨2,0,none⟩=some (.int .i64 m)
 pow:Lib.TabBelow prog W.heap.size W "internal/strconv.uint64pow10" .u64 Lib.pow10Tab
def mv (W w:World) (v:Value) (l t:List UInt8) (c:Nat) (e:Ending) (w':World):Prop:=∃v' r,e=.returned v'∧bm w' W.heap.size v' r∧Ext w w' v v'∧Below W.heap.size W w'∧Grew l t r c
def oC (T:PT):Prop:=∀(W w:World) (v:Value) (l:List UInt8),Ready W→T.In W→Below W.heap.size W w→T.bad=0→bm w W.heap.size v l→max l.length 196700+30 * T.cnt≤10000000→T.cnt≤4096→
 Calls prog 41 #[v,.agg #[.int .i64 T.k,.string T.t,.int .i64 T.n,.string T.nm,.slice T.xa T.len T.cap]] w fun e w'=>mv W w v l T.txt (30 * T.cnt - 10) e w'
theorem lB {W:World} {g:Nat} {a b c d e:Value} {t:TypeId} (h:W.heap[g]? =some (.cells #[a,b,c,d,e] t (0,0))):
  W.cell? ⟨g,0,none⟩=some a∧W.cell? ⟨g,1,none⟩=some b∧W.cell? ⟨g,2,none⟩=some c∧W.cell? ⟨g,3,none⟩=some d∧W.cell? ⟨g,4,none⟩=some e:=by
 refine⟨?_, ?_, ?_, ?_, ?_⟩ <;> rw[eX _ _ _ _ _ _ h] <;> rfl
structure KMid (T:PT) (W w0:World) (v0:Value) (l:List UInt8) (sep:List UInt8) (k:Nat) (v:Value) (r:List UInt8) (wr:World):Prop where
 row:bm wr W.heap.size v r
 grew:Grew l (iJ sep T.kidT k) r (30 * eU (fun i=>(T.kid i).cnt) k)
 bel:Below W.heap.size W wr
 ext:Ext w0 wr v0 v
 box:wr.heap[w0.heap.size]? =some (.cells #[.int .i64 T.k,.string T.t,.int .i64 T.n,.string T.nm,.slice T.xa T.len T.cap] 27 (0,0))
 far:some w0.heap.size≠v.ownBlock
theorem zy {T:PT} {W w0 wr w2:World} {v0 v v2:Value} {l r r2:List UInt8} {sep:List UInt8} {k c:Nat} (hm:KMid T W w0 v0 l sep k v r wr) (hb2:bm w2 W.heap.size v2 r2) (he:Ext wr w2 v v2) (hB:Below W.heap.size W w2)
  (hg:Grew r ((if 0 < k then sep else [])++T.kidT k) r2 c) (hc:c≤30 * (T.kid k).cnt):KMid T W w0 v0 l sep (k+1) v2 r2 w2:=by
 refine⟨hb2, ?_,hB,hm.ext.trans he,he.row hm.far hm.box, ?_⟩
 ·have h:=(hm.grew.trans hg).cast (show iJ sep T.kidT k++((if 0 < k then sep else [])++T.kidT k)=iJ sep T.kidT (k+1) by rw[iJ,gg])
  refine h.more ?_;simp only[eU];omega
 ·rcases he.lies with e | e
  ·rw[e];exact hm.far
  ·intro x
   have:=e _ x.symm;have:=(bC.1 hm.box).1;omega
theorem zz (T:PT) (ih:∀i,i < T.len→oC (T.kid i)) (sep:ByteArray) (yR:sep.size≤3) (W w:World) (v:Value) (l:List UInt8) (hR:Ready W) (hT:T.In W) (bD:Below W.heap.size W w) (aA:T.bad=0) (hv:bm w W.heap.size v l) (hl:max l.length 196700+35 * T.cnt≤9000000) (h4:T.cnt≤4096):
  Calls prog 77 #[v,.agg #[.int .i64 T.k,.string T.t,.int .i64 T.n,.string T.nm,.slice T.xa T.len T.cap],.string sep] w fun e w'=>mv W w v l (iJ sep.data.toList T.kidT T.len) (30 * eU (fun i=>(T.kid i).cnt) T.len) e w':=by
 have jr:=hT.max;unfold maxLen at jr;have HD:=ab (And.intro hT (And.intro ih (And.intro aA (And.intro hR (And.intro T.cnt_eq (And.intro hl yR))))));have HM0:=ab (show KMid T W w v l sep.data.toList 0 v l (w.alloc (.cells #[.int .i64 T.k,.string T.t,.int .i64 T.n,.string T.nm,.slice T.xa T.len T.cap] 27)) from
  ⟨hv.later (ba _),Grew.refl l,ap bD (ba _),Ext.below v (ba _),aw rfl,hv.apart (ax _)⟩)
 clear hT ih aA hR hl yR hv bD;go_enter func77,ntmps77;go_wp2_with fail;go_loopw [0,12] (fun u i wr=>∃k r,k≤T.len∧i=.int .i64 ((k:Nat):Int)∧KMid T W w v l sep.data.toList k u r wr) (fun _ i _=>T.len - (intOf i).toNat)
 case atStart=>exact⟨0,l,by omega,rfl,aa HM0⟩
 case round=>
  obtain⟨k,r,hk,rfl,hm⟩:=hrel;rcases cX k T.len with hkt | hkt
  ·obtain⟨hT,ih,aA,hR,yT,hl,yR⟩:=aa HD
   obtain⟨k0,k1,k2,k3,k4⟩:=hT.cells hkt;have k0:=av hm.bel k0;have k1:=av hm.bel k1;have k2:=av hm.bel k2;have k3:=av hm.bel k3;have k4:=av hm.bel k4;unfold PT.kv at k4;have lm:=kid_at hT hkt;have AF:=wM (fun i=>(T.kid i).cnt) (show k+1≤T.len from hkt)
   have oO:=Er (fun i=>(T.kid i).cnt) (fun i=>(T.kid i).cnt_pos) T.len
   simp only[eU] at AF;have hmost:=hm.grew.most;have hkp:=(T.kid k).cnt_pos;have sA:Hid ((T.kid k).cnt≤4096):=ab (by omega)
   have HN:Hid (max (r.length+4) 196700+30 * (T.kid k).cnt≤10000000):=ab (by omega)
   have HK:=ab (And.intro (ih k hkt W) (And.intro (hT.kids hkt) (And.intro ((fR aA).2 k hkt) (And.intro hR yR))));have HM:=ab hm;obtain⟨c0,c1,c2,c3,c4⟩:=lB hm.box;have kN:w.heap.size < wr.heap.size:=(bC.1 hm.box).1;have hpn:¬w.heap.size=wr.heap.size:=by omega
   clear hT ih aA hR yT hl yR hm AF oO hmost;have hn:=(aW wr.heap.size wr).alloc (ax _) (.cells #[.int .i64 (T.kid k).k,.string (T.kid k).t,.int .i64 (T.kid k).n,.string (T.kid k).nm,.slice (T.kid k).xa (T.kid k).len (T.kid k).cap] 27);have HH:=ab hn;clear hn;have qa:Hid (sep.data.toList.length=sep.size):=ab (by simp)
   cases vp:k5 T.k (T.kid k).k
   ·have HBK:=ab vp
    have rh:Hid (T.kidT k=(T.kid k).txt):=ab (by unfold PT.kidT rL;rw[vp];rfl)
    clear vp;rcases Nat.eq_zero_or_pos k with dr | dr
    ·have sd:¬(0:Int) < (k:Int):=by omega
     have rj:=ab dr;clear dr;go_wp2_with (first | (go_at_call 123;refine(zb _ _ _).mono ?_;rintro e w9 ⟨rfl,rfl⟩;rw[aa HBK]) | (go_at_call 41;refine((aa HK).1 _ _ r (aa HK).2.2.2.1 (aa HK).2.1 (ap (aa HM).bel (aa HH)) (aa HK).2.2.1 ((aa HM).row.later (aa HH)) (by have:=aa HN;omega) (aa sA)).mono ?_;rintro e w2 ⟨v2,r2,rfl,hb2,he2,kP,fk⟩;have kx:=ab (And.intro hb2 (And.intro he2 (And.intro kP fk)));clear hb2 he2 kP fk))
     obtain⟨hb2,he2,kP,fk⟩:=aa kx;exact⟨⟨k+1,r2,by omega,by go_num,zy (aa HM) hb2 ((Ext.below _ (aa HH)).trans he2) kP (fk.cast (by rw[ac (by have:=aa rj;omega),aa rh];rfl)) (by omega)⟩,by simp[intOf];omega⟩
    ·have sd:(0:Int) < (k:Int):=by omega
     go_wp2_with (first | (at_builtin;refine rs rfl _ _ rfl W.heap.size _ r sep rfl rfl (by exact(aa HM).row.later (aa HH)) (bJ (aa HM).bel.size (aa HH).size) (by have:=aa HN;have:=(aa HK).2.2.2.2;omega) ?_;intro v1 w1 gI da;have fc:=ab (And.intro gI da);(obtain⟨p0,p1,p2,p3,p4⟩:=lB (da.row (aa HM).far ((Below.heap_alloc _ _ _ kN).trans (aa HM).box)));(obtain⟨x0,x1,x2,x3,x4⟩:=lB (da.row ((aa HM).row.apart (ax _)) (aw rfl)));clear gI da) | (go_at_call 123;refine(zb _ _ _).mono ?_;rintro e w9 ⟨rfl,rfl⟩;rw[aa HBK]) | (go_at_call 41;refine((aa HK).1 _ _ (r++sep.data.toList) (aa HK).2.2.2.1 (aa HK).2.1 (ap (aa HM).bel (aa HH) |>.trans ((aa fc).2.bel ((aa HM).row.later (aa HH)) (bJ (aa HM).bel.size (aa HH).size))) (aa HK).2.2.1 (aa fc).1 (by have:=aa HN;have:=aa qa;have:=(aa HK).2.2.2.2;rw[bg];omega) (aa sA)).mono ?_;rintro e w2 ⟨v2,r2,rfl,hb2,he2,kP,fk⟩;have kx:=ab (And.intro hb2 (And.intro he2 (And.intro kP fk)));clear hb2 he2 kP fk))
     obtain⟨hb2,he2,kP,fk⟩:=aa kx;exact⟨⟨k+1,r2,by omega,by go_num,zy (aa HM) hb2 (((Ext.below _ (aa HH)).trans (aa fc).2).trans he2) kP (((Grew.put r sep.data.toList).trans fk).cast (by rw[af dr,aa rh])) (by have:=aa qa;have:=(aa HK).2.2.2.2;omega)⟩,by simp[intOf];omega⟩
   ·have HBK:=ab vp
    have rh:Hid (T.kidT k=40::(T.kid k).txt++[41]):=ab (by unfold PT.kidT rL;rw[vp];rfl)
    clear vp;rcases Nat.eq_zero_or_pos k with dr | dr
    ·have sd:¬(0:Int) < (k:Int):=by omega
     have rj:=ab dr;clear dr;have HBc:=ab ((aa HM).row.later (aa HH));have HXc:Hid ((wr.alloc (.cells #[.int .i64 (T.kid k).k,.string (T.kid k).t,.int .i64 (T.kid k).n,.string (T.kid k).nm,.slice (T.kid k).xa (T.kid k).len (T.kid k).cap] 27)).heap[wr.heap.size]? =some (.cells #[.int .i64 (T.kid k).k,.string (T.kid k).t,.int .i64 (T.kid k).n,.string (T.kid k).nm,.slice (T.kid k).xa (T.kid k).len (T.kid k).cap] 27 (0,0))):=ab (aw rfl);have ra:=ab (ap (aa HM).bel (aa HH));have HXf:=ab ((aa HM).row.apart (ax _));have wt:=ab (aa HN);go_wp2_with (first | (go_at_call 123;refine(zb _ _ _).mono ?_;rintro e w9 ⟨rfl,rfl⟩;rw[aa HBK]));refine Dr (B:=W.heap.size) (r:=r) (bx:=wr.heap.size) (M:=fun l2=>Grew (r++[40]) (T.kid k).txt l2 (30 * (T.kid k).cnt - 10)) ca ca ca ca ca ca ca ca rfl rfl rfl rfl (aa HBc) (aa ra).size (by have:=aa wt;omega) (aa HXc) rfl (aa HXf) (fun l2 h2=>by have hm:=h2.most;have:=aa wt;rw[bg,List.length_singleton] at hm;omega) (fun w1 v1 hb1 da=>((aa HK).1 w1 v1 (r++[40]) (aa HK).2.2.2.1 (aa HK).2.1 ((aa ra).trans (da.bel (aa HBc) (aa ra).size)) (aa HK).2.2.1 hb1 (by have:=aa wt;rw[bg,List.length_singleton];omega) (aa sA)).mono fun e w2 h=>by
      obtain⟨v2,r2,rfl,q1,q2,q3,q4⟩:=h;exact⟨v2,rfl,r2,q1,q2,q4⟩) ?_
     intro x w2 v2 l2 hb2 fk he2 hx0;have kx:=ab (And.intro hb2 (And.intro fk he2));have HBl:=ab ((aa ra).trans (he2.bel (aa HBc) (aa ra).size));clear hb2 fk he2;simp only[fl];go_frame;rw[hx0];clear hx0;go_wp2_with fail;obtain⟨hb2,fk,he2⟩:=aa kx;exact⟨⟨k+1,l2++[41],by omega,by go_num,zy (aa HM) hb2 ((Ext.below _ (aa HH)).trans he2) (aa HBl) ((((Grew.put r [40]).trans fk).trans (Grew.put l2 [41])).cast (by rw[ac (by have:=aa rj;omega),aa rh];simp)) (by simp;omega)⟩,by simp[intOf];omega⟩
    ·have sd:(0:Int) < (k:Int):=by omega
     go_wp2_with (first | (at_builtin;refine rs rfl _ _ rfl W.heap.size _ r sep rfl rfl (by exact(aa HM).row.later (aa HH)) (bJ (aa HM).bel.size (aa HH).size) (by have:=aa HN;have:=(aa HK).2.2.2.2;omega) ?_;intro v1 w1 gI da;have fc:=ab (And.intro gI da);(obtain⟨p0,p1,p2,p3,p4⟩:=lB (da.row (aa HM).far ((Below.heap_alloc _ _ _ kN).trans (aa HM).box)));(obtain⟨x0,x1,x2,x3,x4⟩:=lB (da.row ((aa HM).row.apart (ax _)) (aw rfl)));clear gI da) | (go_at_call 123;refine(zb _ _ _).mono ?_;rintro e w9 ⟨rfl,rfl⟩;rw[aa HBK]))
     have HBc:=ab (aa fc).1;have HXc:=ab ((aa fc).2.row ((aa HM).row.apart (ax _)) (show (wr.alloc (.cells #[.int .i64 (T.kid k).k,.string (T.kid k).t,.int .i64 (T.kid k).n,.string (T.kid k).nm,.slice (T.kid k).xa (T.kid k).len (T.kid k).cap] 27)).heap[wr.heap.size]? =some (.cells #[.int .i64 (T.kid k).k,.string (T.kid k).t,.int .i64 (T.kid k).n,.string (T.kid k).nm,.slice (T.kid k).xa (T.kid k).len (T.kid k).cap] 27 (0,0)) from aw rfl));have ra:=ab ((ap (aa HM).bel (aa HH)).trans ((aa fc).2.bel ((aa HM).row.later (aa HH)) (bJ (aa HM).bel.size (aa HH).size)));have HXf:=ab ((aa fc).2.far ((aa HM).row.apart (ax _)) (by simp))
     have wt:Hid (max ((r++sep.data.toList).length+1) 196700+30 * (T.kid k).cnt≤10000000):=ab (by have:=aa HN;have:=aa qa;have:=(aa HK).2.2.2.2;rw[bg];omega)
     refine Dr (B:=W.heap.size) (r:=(r++sep.data.toList)) (bx:=wr.heap.size) (M:=fun l2=>Grew ((r++sep.data.toList)++[40]) (T.kid k).txt l2 (30 * (T.kid k).cnt - 10)) ca ca ca ca ca ca ca ca rfl rfl rfl rfl (aa HBc) (aa ra).size (by have:=aa wt;omega) (aa HXc) rfl (aa HXf) (fun l2 h2=>by have hm:=h2.most;have:=aa wt;rw[bg,List.length_singleton] at hm;omega) (fun w1 v1 hb1 da=>((aa HK).1 w1 v1 ((r++sep.data.toList)++[40]) (aa HK).2.2.2.1 (aa HK).2.1 ((aa ra).trans (da.bel (aa HBc) (aa ra).size)) (aa HK).2.2.1 hb1 (by have:=aa wt;rw[bg,List.length_singleton];omega) (aa sA)).mono fun e w2 h=>by
      obtain⟨v2,r2,rfl,q1,q2,q3,q4⟩:=h;exact⟨v2,rfl,r2,q1,q2,q4⟩) ?_
     intro x w2 v2 l2 hb2 fk he2 hx0;have kx:=ab (And.intro hb2 (And.intro fk he2));have HBl:=ab ((aa ra).trans (he2.bel (aa HBc) (aa ra).size));clear hb2 fk he2;simp only[fl];go_frame;rw[hx0];clear hx0;go_wp2_with fail;obtain⟨hb2,fk,he2⟩:=aa kx;exact⟨⟨k+1,l2++[41],by omega,by go_num,zy (aa HM) hb2 (((Ext.below _ (aa HH)).trans (aa fc).2).trans he2) (aa HBl) (((((Grew.put r sep.data.toList).trans (Grew.put _ [40])).trans fk).trans (Grew.put l2 [41])).cast (by rw[af dr,aa rh];simp)) (by have:=aa qa;have:=(aa HK).2.2.2.2;simp;omega)⟩,by simp[intOf];omega⟩
  ·have hk':k=T.len:=by omega
   have HM:=ab hm;clear hm;go_wp2_with fail;go_ret;have hm:=aa HM;exact⟨_,r,rfl,hm.row,hm.ext,hm.bel,hk'▸hm.grew⟩
open Go.RowKit
theorem po (K:Nat):(aQ K).size≤6:=by
 unfold aQ;rcases cX K 25 with h | h
 ·have h:K=0∨K=1∨K=2∨K=3∨K=4∨K=5∨K=6∨K=7∨K=8∨K=9∨K=10∨K=11∨K=12∨K=13∨K=14∨K=15∨K=16∨K=17∨K=18∨K=19∨K=20∨K=21∨K=22∨K=23∨K=24:=by omega
  rcases h with rfl | rfl | rfl | rfl | rfl | rfl | rfl | rfl | rfl | rfl | rfl | rfl | rfl | rfl | rfl | rfl | rfl | rfl | rfl | rfl | rfl | rfl | rfl | rfl | rfl <;> decide
 ·have:Dk.getD K ByteArray.empty=ByteArray.empty:=by
   rw[List.getD,xB (by show 25≤K;exact h)];rfl
  rw[this];decide
theorem Nx {W:World} {g:Nat} {a b c d e:Value} {t:TypeId} (h:W.heap[g]? =some (.cells #[a,b,c,d,e] t (0,0))):
  W.cell? ⟨g,0,none⟩=some a∧W.cell? ⟨g,1,none⟩=some b∧W.cell? ⟨g,2,none⟩=some c∧W.cell? ⟨g,3,none⟩=some d∧W.cell? ⟨g,4,none⟩=some e:=by
 refine⟨?_, ?_, ?_, ?_, ?_⟩ <;> rw[eX _ _ _ _ _ _ h] <;> rfl
def kD (T:PT):Value:=if T.wrong=0 then (if 65536 < T.txt.length then .tuple #[.string ⟨#[]⟩,.int .i64 4] else .tuple #[.string ⟨T.txt.toArray⟩,.int .i64 0]) else .tuple #[.string ⟨#[]⟩,.int .i64 T.wrong]
end Go.Proofs.YtlmnjbipfacniaaGreatDoor
