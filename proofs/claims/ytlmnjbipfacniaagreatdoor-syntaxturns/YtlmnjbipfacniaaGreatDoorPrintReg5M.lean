/- What pats.appendWorded does: a kind's word, and what stands -/
import Derived.Test.YtlmnjbipfacniaaGreatDoorPrintReg4M
import Derived.Test.YtlmnjbipfacniaaGreatDoorPrintSaid4M
import Derived.Test.YtlmnjbipfacniaaGreatDoorPrintBrkAM
set_option maxRecDepth 100000
set_option maxHeartbeats 2000000
namespace Go.Proofs.YtlmnjbipfacniaaGreatDoor
open Go.Proofs.Tryz
open Go.RowKit
set_option linter.unusedVariables false
theorem wg (b k:Nat) (hk:k < 5) (W:World):(Instr.fieldAt 27 (.pointer (some ⟨b,0,none⟩)) k).run prog W=.ok (.pointer (some ⟨b,k,none⟩)) W:=by
 rcases (show k=0∨k=1∨k=2∨k=3∨k=4 by omega) with rfl | rfl | rfl | rfl | rfl <;> go_simp
theorem LQ (u:Nat):Lib.itoa (u:Int)=Lib.decDigits u:=by
 unfold Lib.itoa;simp
def kG (K:Int) (T:PT):Obj:=.cells #[.int .i64 K,.string T.t,.int .i64 T.n,.string T.nm,.slice T.xa T.len T.cap] 27 (0,0)
theorem Aa {W:World} {g:Nat} {a b c d:Value} {t:TypeId} (h:W.heap[g]? =some (.cells #[a,b,c,d] t (0,0))):
  W.cell? ⟨g,0,none⟩=some a∧W.cell? ⟨g,1,none⟩=some b∧W.cell? ⟨g,2,none⟩=some c∧W.cell? ⟨g,3,none⟩=some d:=by
 refine⟨?_, ?_, ?_, ?_⟩ <;> rw[eX _ _ _ _ _ _ h] <;> rfl
theorem ld_int {W:World} {b k:Nat} {n:Int} (h:W.cell? ⟨b,k,none⟩=some (.int .i64 n)):(Instr.loadAt 3 (.pointer (some ⟨b,k,none⟩))).run prog W=.ok (.int .i64 n) W:=by
 go_simp
theorem yv {W:World} {b k:Nat} {s:ByteArray} (h:W.cell? ⟨b,k,none⟩=some (.string s)):(Instr.loadAt 9 (.pointer (some ⟨b,k,none⟩))).run prog W=.ok (.string s) W:=by
 go_simp
theorem ld_sl {W:World} {b k:Nat} {x:Option Addr} {n c:Nat} (h:W.cell? ⟨b,k,none⟩=some (.slice x n c)):(Instr.loadAt 25 (.pointer (some ⟨b,k,none⟩))).run prog W=.ok (.slice x n c) W:=by
 go_simp
theorem Cj {W:World} {b k:Nat} {v0 v1 v2 v3 v4:Value} (h0:W.cell? ⟨b,k,none⟩=some v0) (h1:W.cell? ⟨b,k+1,none⟩=some v1) (h2:W.cell? ⟨b,k+2,none⟩=some v2) (h3:W.cell? ⟨b,k+3,none⟩=some v3) (h4:W.cell? ⟨b,k+4,none⟩=some v4):(Instr.loadAt 27 (.pointer (some ⟨b,k,none⟩))).run prog W=.ok (.agg #[v0,v1,v2,v3,v4]) W:=by
 go_simp
theorem Grew.ret {l t r r':List UInt8} {c:Nat} (h:Grew l t r c) (e:r=r'):Grew l t r' c:=e▸h
theorem JB (T:PT) (W w:World) (v:Value) (l:List UInt8) (hR:Ready W) (hT:T.In W) (bD:Below W.heap.size W w) (aA:T.bad=0) (hv:bm w W.heap.size v l) (hl:l.length≤65536) (hh:aE T.k=0) (hw:12≤T.k∧T.k≤17):
  Calls prog 78 #[v,.agg #[.int .i64 T.k,.string T.t,.int .i64 T.n,.string T.nm,.slice T.xa T.len T.cap]] w fun e w'=>mv W w v l T.txt (30 * T.cnt - 10) e w':=by
 obtain⟨r1,r2,r3,r4,r5,r6,r7⟩:=jy (fR aA).1;have fF:=PT.txt_eq r1;have j1:=T.cnt_pos;obtain⟨K,hK⟩:∃K:Nat,T.k=(K:Int):=⟨T.k.toNat,by omega⟩
 obtain⟨s0,s1,s2,s3⟩:=(hR.shapes.later bD) K (by omega) (by omega)
 have hz:(1:Nat) < w.heap.size:=de _ _ s0;have hz':¬w.heap.size=1:=by omega
 rw[show aE (K:Int)=0 by rw[←hK];exact hh] at s1
 obtain⟨lst,qD⟩:∃x,x=co (K:Int):=⟨_,rfl⟩;obtain⟨mst,qC⟩:∃x,x=cD (K:Int):=⟨_,rfl⟩;rw[←qD] at s2;rw[←qC] at s3;clear qD qC;have h1:¬(K:Int) < 0:=by omega
 have h2:(K:Int) < 25:=by omega
 have aD:=ab (((aW w.heap.size w).alloc (ax _) (.cells #[.int .i64 (K:Int),.string T.t,.int .i64 T.n,.string T.nm,.slice T.xa T.len T.cap] 27)).alloc (by simp) (.cells #[.string (aQ K),.int .i64 0,.int .i64 lst,.int .i64 mst] 162))
 have ei:Hid (((w.alloc (.cells #[.int .i64 (K:Int),.string T.t,.int .i64 T.n,.string T.nm,.slice T.xa T.len T.cap] 27)).alloc (.cells #[.string (aQ K),.int .i64 0,.int .i64 lst,.int .i64 mst] 162)).heap[w.heap.size]? =some (kG (K:Int) T)):=ab (bL (by simp) (aw rfl))
 have dy:Hid (((w.alloc (.cells #[.int .i64 (K:Int),.string T.t,.int .i64 T.n,.string T.nm,.slice T.xa T.len T.cap] 27)).alloc (.cells #[.string (aQ K),.int .i64 0,.int .i64 lst,.int .i64 mst] 162)).heap[w.heap.size+1]? =some (.cells #[.string (aQ K),.int .i64 0,.int .i64 lst,.int .i64 mst] 162 (0,0))):=ab (aw (by simp))
 have ir:=ab (hv.apart (ax _));have fd:=ab (hv.apart (Nat.le_succ _));have hwk:(aQ T.k.toNat)=aQ K:=by rw[hK,Int.toNat_natCast]
 have HT:Hid (T.txt=(aQ K).data.toList):=ab (by
  rw[fF,ac (by omega),ac (by omega),ac (by omega),ac (by omega),ac (by omega),ac (by omega),ac (by omega),ac (by omega),ac (by omega),ac (by omega),k9,hwk])
 have h3:¬(K:Int)=20:=by omega
 rw[hK];have aU:=ab hK;clear hK fF;go_enter func78,ntmps78;go_wp2_with (first | (at_builtin;refine rs rfl _ _ rfl W.heap.size _ l (aQ K) rfl rfl (by exact hv.later (aa aD)) (by exact bJ bD.size (aa aD).size) (by have:=po K;omega) ?_;intro v1 w1 gI da;have fc:=ab (And.intro gI da);(obtain⟨c0,c1,c2,c3,c4⟩:=lB (da.row (aa ir) (aa ei)));(obtain⟨y0,y1,y2,y3⟩:=Aa (da.row (aa fd) (aa dy)));clear gI da))
 go_ret;obtain⟨gI,da⟩:=aa fc;have hws:=po K;have kL:(aQ K).data.toList.length=(aQ K).size:=by simp
 exact⟨_,_,rfl,gI,(Ext.below v (aa aD)).trans da,(ap bD (aa aD)).trans (da.bel (hv.later (aa aD)) (bJ bD.size (aa aD).size)),((Grew.leaf l _ hl (by omega)).cast (aa HT).symm).more (by omega)⟩
theorem KL (T:PT) (W w:World) (v:Value) (l:List UInt8) (hR:Ready W) (hT:T.In W) (bD:Below W.heap.size W w) (aA:T.bad=0) (hv:bm w W.heap.size v l) (hl:l.length≤65536) (hh:aE T.k=2) (hw:T.k=2∨8≤T.k∧T.k≤11):
  Calls prog 78 #[v,.agg #[.int .i64 T.k,.string T.t,.int .i64 T.n,.string T.nm,.slice T.xa T.len T.cap]] w fun e w'=>mv W w v l T.txt (30 * T.cnt - 10) e w':=by
 obtain⟨r1,r2,r3,r4,r5,r6,r7⟩:=jy (fR aA).1;have fF:=PT.txt_eq r1;have j1:=T.cnt_pos;obtain⟨K,hK⟩:∃K:Nat,T.k=(K:Int):=⟨T.k.toNat,by omega⟩
 obtain⟨s0,s1,s2,s3⟩:=(hR.shapes.later bD) K (by omega) (by omega)
 have hz:(1:Nat) < w.heap.size:=de _ _ s0;have hz':¬w.heap.size=1:=by omega
 rw[show aE (K:Int)=2 by rw[←hK];exact hh] at s1
 obtain⟨lst,qD⟩:∃x,x=co (K:Int):=⟨_,rfl⟩;obtain⟨mst,qC⟩:∃x,x=cD (K:Int):=⟨_,rfl⟩;rw[←qD] at s2;rw[←qC] at s3;clear qD qC;have h1:¬(K:Int) < 0:=by omega
 have h2:(K:Int) < 25:=by omega
 have aD:=ab (((aW w.heap.size w).alloc (ax _) (.cells #[.int .i64 (K:Int),.string T.t,.int .i64 T.n,.string T.nm,.slice T.xa T.len T.cap] 27)).alloc (by simp) (.cells #[.string (aQ K),.int .i64 2,.int .i64 lst,.int .i64 mst] 162))
 have ei:Hid (((w.alloc (.cells #[.int .i64 (K:Int),.string T.t,.int .i64 T.n,.string T.nm,.slice T.xa T.len T.cap] 27)).alloc (.cells #[.string (aQ K),.int .i64 2,.int .i64 lst,.int .i64 mst] 162)).heap[w.heap.size]? =some (kG (K:Int) T)):=ab (bL (by simp) (aw rfl))
 have dy:Hid (((w.alloc (.cells #[.int .i64 (K:Int),.string T.t,.int .i64 T.n,.string T.nm,.slice T.xa T.len T.cap] 27)).alloc (.cells #[.string (aQ K),.int .i64 2,.int .i64 lst,.int .i64 mst] 162)).heap[w.heap.size+1]? =some (.cells #[.string (aQ K),.int .i64 2,.int .i64 lst,.int .i64 mst] 162 (0,0))):=ab (aw (by simp))
 have ir:=ab (hv.apart (ax _));have fd:=ab (hv.apart (Nat.le_succ _));have hwk:(aQ T.k.toNat)=aQ K:=by rw[hK,Int.toNat_natCast]
 obtain⟨u,hu⟩:∃u:Nat,T.n=(u:Int):=⟨T.n.toNat,by have:=r4 hh;omega⟩
 have hu2:u≤65536:=by have:=r4 hh;omega
 have HT:Hid (T.txt=(aQ K).data.toList++(40::Lib.decDigits u++[41])):=ab (by
  rw[fF,ac (by omega),ac (by omega),ac (by omega),ac (by omega),ac (by omega),ac (by omega),ac (by omega),af hh,hwk,hu,LQ])
 have HDL:Hid ((Lib.decDigits u).length≤20):=ab (by
  rw[Lib.decDigits_length];rcases Nat.eq_zero_or_pos u with rfl | hp
  ·rw[Lib.nDigits];decide
  ·have:=Lib.numDigits_eq u hp (by omega)
   split at this <;> omega)
 have HU:=ab hu;clear hu;have HRM:Hid ((l++(aQ K).data.toList).length+140000≤100000000):=ab (by
  have:=po K;have hq:(aQ K).data.toList.length=(aQ K).size:=by simp
  rw[bg];omega)
 rw[hK];have aU:=ab hK;clear hK fF;go_enter func78,ntmps78;go_wp2_with (first | (at_builtin;refine rs rfl _ _ rfl W.heap.size _ l (aQ K) rfl rfl (by exact hv.later (aa aD)) (by exact bJ bD.size (aa aD).size) (by have:=po K;omega) ?_;intro v1 w1 gI da;have fc:=ab (And.intro gI da);(obtain⟨c0,c1,c2,c3,c4⟩:=lB (da.row (aa ir) (aa ei)));(obtain⟨y0,y1,y2,y3⟩:=Aa (da.row (aa fd) (aa dy)));clear gI da))
 have bi:Hid (Below W.heap.size W w1):=ab ((ap bD (aa aD)).trans ((aa fc).2.bel (hv.later (aa aD)) (bJ bD.size (aa aD).size)));refine I3 (B:=W.heap.size) (r:=l++(aQ K).data.toList) (bx:=w.heap.size) (row:=kG (K:Int) T) (u:=u) (M:=fun l2=>l2=l++(aQ K).data.toList++[40]++Lib.decDigits u) ca ca ca ca ca ca ca ca ca rfl rfl rfl (aa fc).1 (aa bi).size (aa HRM) rfl ((aa fc).2.row (aa ir) (aa ei)) ((aa fc).2.far (aa ir) (by simp;omega)) (fun W=>wg _ 2 (by omega) W) (fun W hW=>ld_int (aa HU▸(lB hW).2.2.1)) (fun l2 h2=>by
   have:=aa HDL;have:=aa HRM;rw[h2,bg,bg,List.length_singleton];omega) (fun w3 v3 hb3 pY=>(Ht u hu2 hb3 (bJ (aa bi).size pY.grown.size) (by have:=aa HRM;rw[bg,List.length_singleton];omega) (hR.pow w3 ((aa bi).trans (pY.bel (aa fc).1 (aa bi).size)))).mono fun e w4 h=>by
   obtain⟨v4,rfl,q1,q2⟩:=h;exact⟨v4,rfl,_,q1,q2,rfl⟩) ?_
 intro x w2 v2 l2 hb2 eP he2 cy;have kx:=ab (And.intro hb2 (And.intro eP he2));clear hb2 eP he2;simp only[fl];go_frame;rw[cy];clear cy;go_wp2_with fail;go_ret;obtain⟨hb2,eP,he2⟩:=aa kx;obtain⟨gI,da⟩:=aa fc;have hws:=po K;have kL:(aQ K).data.toList.length=(aQ K).size:=by simp
 obtain⟨l0,rfl,rfl⟩:=eP;have hdl:=aa HDL;exact⟨_,_,rfl,hb2,(Ext.below v (aa aD)).trans (da.trans he2),(aa bi).trans (he2.bel gI (aa bi).size),(((Grew.leaf l ((aQ K).data.toList++(40::Lib.decDigits u++[41])) hl (by simp only[bg,List.length_cons,List.length_nil];omega)).cast (aa HT).symm).more (by omega)).ret (by simp)⟩
theorem KK (T:PT) (W w:World) (v:Value) (l:List UInt8) (hR:Ready W) (hT:T.In W) (bD:Below W.heap.size W w) (aA:T.bad=0) (hv:bm w W.heap.size v l) (hl:l.length≤65536) (hh:aE T.k=1) (hw:3≤T.k∧T.k≤7):
  Calls prog 78 #[v,.agg #[.int .i64 T.k,.string T.t,.int .i64 T.n,.string T.nm,.slice T.xa T.len T.cap]] w fun e w'=>mv W w v l T.txt (30 * T.cnt - 10) e w':=by
 obtain⟨r1,r2,r3,r4,r5,r6,r7⟩:=jy (fR aA).1;have fF:=PT.txt_eq r1;have j1:=T.cnt_pos;obtain⟨K,hK⟩:∃K:Nat,T.k=(K:Int):=⟨T.k.toNat,by omega⟩
 obtain⟨s0,s1,s2,s3⟩:=(hR.shapes.later bD) K (by omega) (by omega)
 have hz:(1:Nat) < w.heap.size:=de _ _ s0;have hz':¬w.heap.size=1:=by omega
 rw[show aE (K:Int)=1 by rw[←hK];exact hh] at s1
 obtain⟨lst,qD⟩:∃x,x=co (K:Int):=⟨_,rfl⟩;obtain⟨mst,qC⟩:∃x,x=cD (K:Int):=⟨_,rfl⟩;rw[←qD] at s2;rw[←qC] at s3;clear qD qC;have h1:¬(K:Int) < 0:=by omega
 have h2:(K:Int) < 25:=by omega
 have aD:=ab (((aW w.heap.size w).alloc (ax _) (.cells #[.int .i64 (K:Int),.string T.t,.int .i64 T.n,.string T.nm,.slice T.xa T.len T.cap] 27)).alloc (by simp) (.cells #[.string (aQ K),.int .i64 1,.int .i64 lst,.int .i64 mst] 162))
 have ei:Hid (((w.alloc (.cells #[.int .i64 (K:Int),.string T.t,.int .i64 T.n,.string T.nm,.slice T.xa T.len T.cap] 27)).alloc (.cells #[.string (aQ K),.int .i64 1,.int .i64 lst,.int .i64 mst] 162)).heap[w.heap.size]? =some (kG (K:Int) T)):=ab (bL (by simp) (aw rfl))
 have dy:Hid (((w.alloc (.cells #[.int .i64 (K:Int),.string T.t,.int .i64 T.n,.string T.nm,.slice T.xa T.len T.cap] 27)).alloc (.cells #[.string (aQ K),.int .i64 1,.int .i64 lst,.int .i64 mst] 162)).heap[w.heap.size+1]? =some (.cells #[.string (aQ K),.int .i64 1,.int .i64 lst,.int .i64 mst] 162 (0,0))):=ab (aw (by simp))
 have ir:=ab (hv.apart (ax _));have fd:=ab (hv.apart (Nat.le_succ _));have hwk:(aQ T.k.toNat)=aQ K:=by rw[hK,Int.toNat_natCast]
 have ja:=r3 hh;have hqs:=A1 T.t ja;have HT:Hid (T.txt=(aQ K).data.toList++(40::(fU T.t).data.toList++[41])):=ab (by
  rw[fF,ac (by omega),ac (by omega),ac (by omega),ac (by omega),ac (by omega),ac (by omega),ac (by omega),ac (by omega),af hh,hwk]
  rfl)
 have HRM:Hid ((l++(aQ K).data.toList).length+140000≤100000000):=ab (by
  have:=po K;have hq:(aQ K).data.toList.length=(aQ K).size:=by simp
  rw[bg];omega)
 rw[hK];have aU:=ab hK;clear hK fF;go_enter func78,ntmps78;go_wp2_with (first | (at_builtin;refine rs rfl _ _ rfl W.heap.size _ l (aQ K) rfl rfl (by exact hv.later (aa aD)) (by exact bJ bD.size (aa aD).size) (by have:=po K;omega) ?_;intro v1 w1 gI da;have fc:=ab (And.intro gI da);(obtain⟨c0,c1,c2,c3,c4⟩:=lB (da.row (aa ir) (aa ei)));(obtain⟨y0,y1,y2,y3⟩:=Aa (da.row (aa fd) (aa dy)));clear gI da))
 have bi:Hid (Below W.heap.size W w1):=ab ((ap bD (aa aD)).trans ((aa fc).2.bel (hv.later (aa aD)) (bJ bD.size (aa aD).size)));obtain⟨mm,rZ⟩:=hR.lim;refine IQ (B:=W.heap.size) (r:=l++(aQ K).data.toList) (bx:=w.heap.size) (row:=kG (K:Int) T) (t:=T.t) ca ca ca ca ca ca ca ca ca ca rfl rfl rfl (aa fc).1 (aa bi).size (aa HRM) rfl ((aa fc).2.row (aa ir) (aa ei)) ((aa fc).2.far (aa ir) (by simp;omega)) (by omega) (fun W=>wg _ 1 (by omega) W) (fun W hW=>yv (lB hW).2.1) (fun w3 {c} pY=>(Bd T.t w3 ja mm (av ((aa bi).trans (pY.bel (aa fc).1 (aa bi).size)) rZ))) ?_
 intro x w2 v2 l2 hb2 eP he2 cy;have kx:=ab (And.intro hb2 (And.intro eP he2));clear hb2 eP he2;simp only[fl];go_frame;rw[cy];clear cy;go_wp2_with fail;go_ret;obtain⟨hb2,eP,he2⟩:=aa kx;obtain⟨gI,da⟩:=aa fc;have hws:=po K;have kL:(aQ K).data.toList.length=(aQ K).size:=by simp
 have eP:l2=l++(aQ K).data.toList++[40]++(fU T.t).data.toList++[41]:=eP;subst eP;have hql:(fU T.t).data.toList.length=(fU T.t).size:=by simp
 exact⟨_,_,rfl,hb2,(Ext.below v (aa aD)).trans (da.trans he2),(aa bi).trans (he2.bel gI (aa bi).size),(((Grew.leaf l ((aQ K).data.toList++(40::(fU T.t).data.toList++[41])) hl (by simp only[bg,List.length_cons,List.length_nil];omega)).cast (aa HT).symm).more (by omega)).ret (by simp)⟩
theorem KM (T:PT) (W w:World) (v:Value) (l:List UInt8) (hR:Ready W) (hT:T.In W) (bD:Below W.heap.size W w) (aA:T.bad=0) (hv:bm w W.heap.size v l) (hl:l.length≤65536) (hh:aE T.k=0) (hw:T.k=20) (ih:oC (T.kid 0)) (hN:max l.length 196700+30 * T.cnt≤10000000) (h4:T.cnt≤4096):
  Calls prog 78 #[v,.agg #[.int .i64 T.k,.string T.t,.int .i64 T.n,.string T.nm,.slice T.xa T.len T.cap]] w fun e w'=>mv W w v l T.txt (30 * T.cnt - 10) e w':=by
 obtain⟨r1,r2,r3,r4,r5,r6,r7⟩:=jy (fR aA).1;have fF:=PT.txt_eq r1;have j1:=T.cnt_pos;obtain⟨K,hK⟩:∃K:Nat,T.k=(K:Int):=⟨T.k.toNat,by omega⟩
 obtain⟨s0,s1,s2,s3⟩:=(hR.shapes.later bD) K (by omega) (by omega)
 have hz:(1:Nat) < w.heap.size:=de _ _ s0;have hz':¬w.heap.size=1:=by omega
 rw[show aE (K:Int)=0 by rw[←hK];exact hh] at s1
 obtain⟨lst,qD⟩:∃x,x=co (K:Int):=⟨_,rfl⟩;obtain⟨mst,qC⟩:∃x,x=cD (K:Int):=⟨_,rfl⟩;rw[←qD] at s2;rw[←qC] at s3;clear qD qC;have h1:¬(K:Int) < 0:=by omega
 have h2:(K:Int) < 25:=by omega
 have aD:=ab (((aW w.heap.size w).alloc (ax _) (.cells #[.int .i64 (K:Int),.string T.t,.int .i64 T.n,.string T.nm,.slice T.xa T.len T.cap] 27)).alloc (by simp) (.cells #[.string (aQ K),.int .i64 0,.int .i64 lst,.int .i64 mst] 162))
 have ei:Hid (((w.alloc (.cells #[.int .i64 (K:Int),.string T.t,.int .i64 T.n,.string T.nm,.slice T.xa T.len T.cap] 27)).alloc (.cells #[.string (aQ K),.int .i64 0,.int .i64 lst,.int .i64 mst] 162)).heap[w.heap.size]? =some (kG (K:Int) T)):=ab (bL (by simp) (aw rfl))
 have dy:Hid (((w.alloc (.cells #[.int .i64 (K:Int),.string T.t,.int .i64 T.n,.string T.nm,.slice T.xa T.len T.cap] 27)).alloc (.cells #[.string (aQ K),.int .i64 0,.int .i64 lst,.int .i64 mst] 162)).heap[w.heap.size+1]? =some (.cells #[.string (aQ K),.int .i64 0,.int .i64 lst,.int .i64 mst] 162 (0,0))):=ab (aw (by simp))
 have ir:=ab (hv.apart (ax _));have fd:=ab (hv.apart (Nat.le_succ _));have hwk:(aQ T.k.toNat)=aQ K:=by rw[hK,Int.toNat_natCast]
 have cM:0 < T.len:=by
  have h6:co T.k=1:=by unfold co;rw[ac (by omega),af (by omega)]
  omega
 have hkp:=(T.kid 0).cnt_pos;have hkc:1+(T.kid 0).cnt≤T.cnt:=by
  have h1:=T.cnt_eq;have h2:=wM (fun i=>(T.kid i).cnt) (show 0+1≤T.len from cM)
  simp only[eU] at h2;omega
 have HT:Hid (T.txt=(aQ K).data.toList++(40::(T.kid 0).txt++[41])):=ab (by
  rw[fF,ac (by omega),ac (by omega),ac (by omega),ac (by omega),ac (by omega),ac (by omega),ac (by omega),ac (by omega),ac (by omega),af hw,hwk])
 have ju:((K:Int)==20)=true:=bt;have HLW:Hid ((l++(aQ K).data.toList).length≤65542):=ab (by
  have:=po K;have hq:(aQ K).data.toList.length=(aQ K).size:=by simp
  rw[bg];omega)
 have HKC:=ab (hT.cells cM);have HIA:=ab (kid_at hT cM);have HRM:Hid ((l++(aQ K).data.toList).length+140000≤100000000):=ab (by
  have:=po K;have hq:(aQ K).data.toList.length=(aQ K).size:=by simp
  rw[bg];omega)
 rw[hK];have aU:=ab hK;clear hK fF;go_enter func78,ntmps78;go_wp2_with (first | (at_builtin;refine rs rfl _ _ rfl W.heap.size _ l (aQ K) rfl rfl (by exact hv.later (aa aD)) (by exact bJ bD.size (aa aD).size) (by have:=po K;omega) ?_;intro v1 w1 gI da;have fc:=ab (And.intro gI da);(obtain⟨c0,c1,c2,c3,c4⟩:=lB (da.row (aa ir) (aa ei)));(obtain⟨y0,y1,y2,y3⟩:=Aa (da.row (aa fd) (aa dy)));clear gI da))
 have bi:Hid (Below W.heap.size W w1):=ab ((ap bD (aa aD)).trans ((aa fc).2.bel (hv.later (aa aD)) (bJ bD.size (aa aD).size)));refine JA (B:=W.heap.size) (r:=l++(aQ K).data.toList) (bx:=w.heap.size) (row:=kG (K:Int) T) (kids:=.slice T.xa T.len T.cap) (kp:=.pointer (some ⟨T.b,T.o,none⟩)) (kid:=.agg #[.int .i64 (T.kid 0).k,.string (T.kid 0).t,.int .i64 (T.kid 0).n,.string (T.kid 0).nm,.slice (T.kid 0).xa (T.kid 0).len (T.kid 0).cap]) (M:=fun l2=>Grew (l++(aQ K).data.toList++[40]) (T.kid 0).txt l2 (30 * (T.kid 0).cnt - 10)) ca ca ca ca ca ca ca ca ca ca ca rfl rfl rfl (aa fc).1 (aa bi).size (aa HRM) rfl ((aa fc).2.row (aa ir) (aa ei)) ((aa fc).2.far (aa ir) (by simp;omega)) (fun W=>wg _ 4 (by omega) W) (fun W hW=>ld_sl (lB hW).2.2.2.2) (fun W=>by simpa using aa HIA W) (fun W' {c} pY=>by
   have hb:=(aa bi).trans (pY.bel (aa fc).1 (aa bi).size);obtain⟨k0,k1,k2,k3,k4⟩:=aa HKC;have:=Cj (av hb k0) (av hb k1) (av hb k2) (av hb k3) (av hb k4)
   simpa [PT.kv] using this) (fun l2 h2=>by
   have hm:=h2.most;have:=aa HLW;rw[bg,List.length_singleton] at hm;omega) (fun w3 v3 hb3 pY=>(ih W w3 v3 (l++(aQ K).data.toList++[40]) hR (hT.kids cM) ((aa bi).trans (pY.bel (aa fc).1 (aa bi).size)) ((fR aA).2 0 cM) hb3 (by have:=aa HLW;rw[bg,List.length_singleton];omega) (by omega)).mono fun e w4 h=>by
   obtain⟨v4,r4,rfl,q1,q2,q3,q4⟩:=h;exact⟨v4,rfl,r4,q1,q2,q4⟩) ?_
 intro x w2 v2 l2 hb2 eP he2 cy;have kx:=ab (And.intro hb2 (And.intro eP he2));clear hb2 eP he2;simp only[fl];go_frame;rw[cy];clear cy;go_wp2_with fail;go_ret;obtain⟨hb2,eP,he2⟩:=aa kx;obtain⟨gI,da⟩:=aa fc;have hws:=po K;have kL:(aQ K).data.toList.length=(aQ K).size:=by simp
 obtain⟨l0,hg,rfl⟩:=eP;exact⟨_,_,rfl,hb2,(Ext.below v (aa aD)).trans (da.trans he2),(aa bi).trans (he2.bel gI (aa bi).size),(((((Grew.put l (aQ K).data.toList).trans (Grew.put _ [40])).trans hg).trans (Grew.put l0 [41])).cast (by rw[aa HT];simp)).more (by simp only[List.length_cons,List.length_nil];omega)⟩
open Go.RowKit
structure CurF (B:Nat) (w0:World) (v:Value) (r:List UInt8) (bx:Nat) (nm:ByteArray) (L:Array Bool) (x:Nat→Value) (w:World) (cur:Value) (l:List UInt8):Prop where
 size:L.size=7
 f0:Up L 0→x 48=v
 f1:Up L 1→gn w cur 64 (x 49)
 f3:Up L 3→x 51=.pointer (some ⟨bx,3,none⟩)
 f4:Up L 4→x 52=.string nm
 st:(¬Up L 2∧¬Up L 5∧cur=v∧l=r)∨(Up L 2∧¬Up L 5∧x 50=cur∧(fun l=>l=r++[64]) l)∨(Up L 5∧x 53=cur∧(fun l=>l=r++[64]++nm.data.toList) l)
 fz:Up L 6→x 4=x 53
 chn:Chn B w0 v w cur l
theorem Jv {ops:Array Oper} {id:Nat} {Q:Exit→Act→World→Prop} {a:Act} {w:World} {v:Value} {r:List UInt8} {B:Nat} {bx:Nat} {row:Obj} {nm:ByteArray}
  (p0:ci ops 0 (.move (.tmp 0)) 48 [])
  (p1:ci ops 1 (.buildSlice 48 1 #[(0,.const (.int .u8 64))]) 49 [])
  (p2:ci ops 2 (.call {callee:=.builtin .append,args:= #[.tmp 48,.tmp 49],argTypes:= #[48,48]}) 50 [0,1])
  (p3:ci ops 3 (.fieldAddr 27 (.tmp 3) 3) 51 [])
  (p4:ci ops 4 (.load 9 (.tmp 51)) 52 [3])
  (p5:ci ops 5 (.call {callee:=.builtin .append,args:= #[.tmp 50,.tmp 52],argTypes:= #[48,9]}) 53 [2,4])
  (p6:ci ops 6 (.assign (.tmp 53)) 4 [0,1,2,3,4,5])
  (hn:ops.size=7) (ay:a.tmps.size=65) (h0:a.eval (.tmp 0)=v) (hv:bm w B v r) (hB:B≤w.heap.size)
  (hr:r.length+140000≤100000000) (h3:a.eval (.tmp 3)=.pointer (some ⟨bx,0,none⟩)) (an:w.heap[bx]? =some row) (lZ:some bx≠v.ownBlock) (dq:nm.size≤16) (oP:∀W,(Instr.fieldAt 27 (.pointer (some ⟨bx,0,none⟩)) 3).run prog W=.ok (.pointer (some ⟨bx,3,none⟩)) W) (oN:∀W:World,W.heap[bx]? =some row→(Instr.loadAt 9 (.pointer (some ⟨bx,3,none⟩))).run prog W=.ok (.string nm) W)
  (hQ:∀x w2 v2 l2,bm w2 B v2 l2→(fun l=>l=r++[64]++nm.data.toList) l2→Ext w w2 v v2→x 4=v2→Q .normal (fl a [48,49,50,51,52,53,4] x) w2):(Code.region id ops true).wp prog Q a w:=by
 refine uj (I:=fun L a' w'=>∃x cur l,a'=fl a [48,49,50,51,52,53,4] x∧CurF B w v r bx nm L x w' cur l) rfl ?_ ?_ ?_
 ·have hd:Below w.heap.size w w.drew:=(aW _ _).drew
  exact⟨fun d=>a.eval (.tmp d),v,r,(sM _ a).symm,by rw[hn];rfl,fun h=>absurd h cC,fun h=>absurd h cC,fun h=>absurd h cC,fun h=>absurd h cC,.inl ⟨cC,cC,rfl,rfl⟩,fun h=>absurd h cC,hv.later hd,Ext.below v hd⟩
 ·rintro L a' w' i ⟨x,cur,l,rfl,H⟩ hsh hi
  have hs:=H.size;have au:i < 7:=by
   obtain⟨-,o,ho, -⟩:=nZ.1 hi;have:=(bC.1 ho).1;omega
  have ag:i < L.size:=by rw[hs];exact au
  have hS:(L.setIfInBounds i true).size=7:=by simp[hs]
  have cz:B≤w'.heap.size:=bJ hB H.chn.ext.grown.size;rcases (show i=0∨i=1∨i=2∨i=3∨i=4∨i=5∨i=6 by omega) with rfl | rfl | rfl | rfl | rfl | rfl | rfl
  ·obtain⟨hu,hd⟩:=cF p0 hi
   refine cH p0 fun o ho aN=>uG ho ?_
   refine⟨bU x 48 v,cur,l,by rw[aN,(kT [48,49,50,51,52,53,4] a x (t:=0) (by decide)),h0,lA _ _ _ _ _ (by decide) (by decide)],hS,fun _=>cA _ _ _,us ag H.f1,uk ag H.f3,uk ag H.f4, ?_,uz ag H.fz,H.chn⟩
   ·simpa only[bT ag,(nd:¬2=0),(nd:¬5=0),el,uo x 50 48,uo x 53 48] using H.st
  ·obtain⟨hu,hd⟩:=cF p1 hi
   refine cH p1 fun o ho aN=>ru 64 ho ?_
   have hb:Below w'.heap.size w' (w'.alloc (.cells #[.int .u8 (((64:UInt8).toNat:Nat):Int)] 5)):=ba _;refine⟨bU x 49 (.slice (some ⟨w'.heap.size,0,none⟩) 1 1),cur,l,fp aN,hS,uk ag H.f0,fun _=>by rw[cA];exact gn.new H.chn.row 64,uk ag H.f3,uk ag H.f4, ?_,uz ag H.fz,H.chn.below hb⟩
   ·simpa only[bT ag,(nd:¬2=1),(nd:¬5=1),el,uo x 50 49,uo x 53 49] using H.st
  ·obtain⟨hu,hd⟩:=cF p2 hi
   rcases H.st with ⟨s2,s5,rfl,rfl⟩ | ⟨s2, -⟩ | ⟨s5, -⟩
   ·obtain⟨g,hg,aV,tI⟩:=H.f1 (hd 1 (by decide))
    refine cH p2 fun o ho aN=>rv (.tmp 48) (.tmp 49) ho (fe ay (H.f0 (hd 0 (by decide)))) (fe ay (hg)) H.chn.row aV cz (by omega) ?_
    intro v' w2 hb2 he2;refine⟨bU x 50 v',v',_,fp aN,hS,uk ag H.f0,fun h=>(ut ag H.f1 h).next he2,uk ag H.f3,uk ag H.f4,.inr (.inl ⟨(bT ag).2 (.inl rfl),fun h=>s5 (gE ag h),cA _ _ _,rfl⟩),uz ag H.fz,H.chn.next hb2 he2⟩
   ·exact absurd s2 hu
   ·exact absurd (fI p5 hsh s5 2 (by decide)) hu
  ·obtain⟨hu,hd⟩:=cF p3 hi
   refine cH p3 fun o ho aN=>wh ho (by rw[(kT [48,49,50,51,52,53,4] a x (t:=3) (by decide))];exact h3) (oP w') ?_
   refine⟨bU x 51 (.pointer (some ⟨bx,3,none⟩)),cur,l,fp aN,hS,uk ag H.f0,us ag H.f1,fun _=>cA _ _ _,uk ag H.f4, ?_,uz ag H.fz,H.chn⟩
   ·simpa only[bT ag,(nd:¬2=3),(nd:¬5=3),el,uo x 50 51,uo x 53 51] using H.st
  ·obtain⟨hu,hd⟩:=cF p4 hi
   refine cH p4 fun o ho aN=>rD ho (fe ay (H.f3 (hd 3 (by decide)))) (oN w' (H.chn.ext.row lZ an)) ?_
   refine⟨bU x 52 (.string nm),cur,l,fp aN,hS,uk ag H.f0,us ag H.f1,uk ag H.f3,fun _=>cA _ _ _, ?_,uz ag H.fz,H.chn⟩
   ·simpa only[bT ag,(nd:¬2=4),(nd:¬5=4),el,uo x 50 52,uo x 53 52] using H.st
  ·obtain⟨hu,hd⟩:=cF p5 hi
   rcases H.st with ⟨s2, -⟩ | ⟨s2,s5,hx,hl⟩ | ⟨s5, -⟩
   ·exact absurd (hd 2 (by decide)) s2
   ·refine cH p5 fun o ho aN=>vV (.tmp 50) (.tmp 52) ho (fe ay (hx)) (fe ay (H.f4 (hd 4 (by decide)))) H.chn.row cz (by rw[hl,bg,List.length_singleton];omega) ?_
    intro v' w2 hb2 he2;refine⟨bU x 53 v',v',_,fp aN,hS,uk ag H.f0,fun h=>(ut ag H.f1 h).next he2,uk ag H.f3,uk ag H.f4,.inr (.inr (⟨(bT ag).2 (.inl rfl),cA _ _ _,by rw[hl]⟩)),fun h=>absurd (fI p6 hsh (gE ag h) 5 (by decide)) hu,H.chn.next hb2 he2⟩
   ·exact absurd s5 hu
  ·obtain⟨hu,hd⟩:=cF p6 hi
   refine cH p6 fun o ho aN=>uH ho ?_
   refine⟨bU x 4 (x 53),cur,l,by rw[aN,(jQ [48,49,50,51,52,53,4] a x (d:=53) (by decide) (by decide) (by rw[ay];decide)),lA _ _ _ _ _ (by decide) (by decide)],hS,uk ag H.f0,us ag H.f1,uk ag H.f3,uk ag H.f4, ?_,fun _=>by rw[cA,j8 (by decide)],H.chn⟩
   ·simpa only[bT ag,(nd:¬2=6),(nd:¬5=6),el,uo x 50 4,uo x 53 4] using H.st
 ·rintro L a' w' ⟨x,cur,l,rfl,H⟩ ce
  have hs:=H.size;have u0:=cG p0 ce (by omega) (by simp)
  have u1:=cG p1 ce (by omega) (by simp)
  have u2:=cG p2 ce (by omega) (mc u0 (mc u1 mn))
  have u3:=cG p3 ce (by omega) (by simp)
  have u4:=cG p4 ce (by omega) (mc u3 mn)
  have u5:=cG p5 ce (by omega) (mc u2 (mc u4 mn))
  have u6:=cG p6 ce (by omega) (mc u0 (mc u1 (mc u2 (mc u3 (mc u4 (mc u5 mn))))))
  rcases H.st with ⟨-,sz, -⟩ | ⟨-,sz, -⟩ | ⟨-,hx,hl⟩
  ·exact absurd u5 sz
  ·exact absurd u5 sz
  ·exact hQ x w' cur l H.chn.row hl H.chn.ext ((H.fz u6).trans hx)
structure CalF (B:Nat) (w0:World) (v:Value) (r:List UInt8) (bx:Nat) (nm:ByteArray) (L:Array Bool) (x:Nat→Value) (w:World) (cur:Value) (l:List UInt8):Prop where
 size:L.size=7
 f0:Up L 0→x 56=v
 f1:Up L 1→gn w cur 42 (x 57)
 f3:Up L 3→x 59=.pointer (some ⟨bx,3,none⟩)
 f4:Up L 4→x 60=.string nm
 st:(¬Up L 2∧¬Up L 5∧cur=v∧l=r)∨(Up L 2∧¬Up L 5∧x 58=cur∧(fun l=>l=r++[42]) l)∨(Up L 5∧x 61=cur∧(fun l=>l=r++[42]++nm.data.toList) l)
 fz:Up L 6→x 4=x 61
 chn:Chn B w0 v w cur l
theorem Jy {ops:Array Oper} {id:Nat} {Q:Exit→Act→World→Prop} {a:Act} {w:World} {v:Value} {r:List UInt8} {B:Nat} {bx:Nat} {row:Obj} {nm:ByteArray}
  (p0:ci ops 0 (.move (.tmp 0)) 56 [])
  (p1:ci ops 1 (.buildSlice 48 1 #[(0,.const (.int .u8 42))]) 57 [])
  (p2:ci ops 2 (.call {callee:=.builtin .append,args:= #[.tmp 56,.tmp 57],argTypes:= #[48,48]}) 58 [0,1])
  (p3:ci ops 3 (.fieldAddr 27 (.tmp 3) 3) 59 [])
  (p4:ci ops 4 (.load 9 (.tmp 59)) 60 [3])
  (p5:ci ops 5 (.call {callee:=.builtin .append,args:= #[.tmp 58,.tmp 60],argTypes:= #[48,9]}) 61 [2,4])
  (p6:ci ops 6 (.assign (.tmp 61)) 4 [0,1,2,3,4,5])
  (hn:ops.size=7) (ay:a.tmps.size=65) (h0:a.eval (.tmp 0)=v) (hv:bm w B v r) (hB:B≤w.heap.size)
  (hr:r.length+140000≤100000000) (h3:a.eval (.tmp 3)=.pointer (some ⟨bx,0,none⟩)) (an:w.heap[bx]? =some row) (lZ:some bx≠v.ownBlock) (dq:nm.size≤16) (oP:∀W,(Instr.fieldAt 27 (.pointer (some ⟨bx,0,none⟩)) 3).run prog W=.ok (.pointer (some ⟨bx,3,none⟩)) W) (oN:∀W:World,W.heap[bx]? =some row→(Instr.loadAt 9 (.pointer (some ⟨bx,3,none⟩))).run prog W=.ok (.string nm) W)
  (hQ:∀x w2 v2 l2,bm w2 B v2 l2→(fun l=>l=r++[42]++nm.data.toList) l2→Ext w w2 v v2→x 4=v2→Q .normal (fl a [56,57,58,59,60,61,4] x) w2):(Code.region id ops true).wp prog Q a w:=by
 refine uj (I:=fun L a' w'=>∃x cur l,a'=fl a [56,57,58,59,60,61,4] x∧CalF B w v r bx nm L x w' cur l) rfl ?_ ?_ ?_
 ·have hd:Below w.heap.size w w.drew:=(aW _ _).drew
  exact⟨fun d=>a.eval (.tmp d),v,r,(sM _ a).symm,by rw[hn];rfl,fun h=>absurd h cC,fun h=>absurd h cC,fun h=>absurd h cC,fun h=>absurd h cC,.inl ⟨cC,cC,rfl,rfl⟩,fun h=>absurd h cC,hv.later hd,Ext.below v hd⟩
 ·rintro L a' w' i ⟨x,cur,l,rfl,H⟩ hsh hi
  have hs:=H.size;have au:i < 7:=by
   obtain⟨-,o,ho, -⟩:=nZ.1 hi;have:=(bC.1 ho).1;omega
  have ag:i < L.size:=by rw[hs];exact au
  have hS:(L.setIfInBounds i true).size=7:=by simp[hs]
  have cz:B≤w'.heap.size:=bJ hB H.chn.ext.grown.size;rcases (show i=0∨i=1∨i=2∨i=3∨i=4∨i=5∨i=6 by omega) with rfl | rfl | rfl | rfl | rfl | rfl | rfl
  ·obtain⟨hu,hd⟩:=cF p0 hi
   refine cH p0 fun o ho aN=>uG ho ?_
   refine⟨bU x 56 v,cur,l,by rw[aN,(kT [56,57,58,59,60,61,4] a x (t:=0) (by decide)),h0,lA _ _ _ _ _ (by decide) (by decide)],hS,fun _=>cA _ _ _,us ag H.f1,uk ag H.f3,uk ag H.f4, ?_,uz ag H.fz,H.chn⟩
   ·simpa only[bT ag,(nd:¬2=0),(nd:¬5=0),el,uo x 58 56,uo x 61 56] using H.st
  ·obtain⟨hu,hd⟩:=cF p1 hi
   refine cH p1 fun o ho aN=>ru 42 ho ?_
   have hb:Below w'.heap.size w' (w'.alloc (.cells #[.int .u8 (((42:UInt8).toNat:Nat):Int)] 5)):=ba _;refine⟨bU x 57 (.slice (some ⟨w'.heap.size,0,none⟩) 1 1),cur,l,fp aN,hS,uk ag H.f0,fun _=>by rw[cA];exact gn.new H.chn.row 42,uk ag H.f3,uk ag H.f4, ?_,uz ag H.fz,H.chn.below hb⟩
   ·simpa only[bT ag,(nd:¬2=1),(nd:¬5=1),el,uo x 58 57,uo x 61 57] using H.st
  ·obtain⟨hu,hd⟩:=cF p2 hi
   rcases H.st with ⟨s2,s5,rfl,rfl⟩ | ⟨s2, -⟩ | ⟨s5, -⟩
   ·obtain⟨g,hg,aV,tI⟩:=H.f1 (hd 1 (by decide))
    refine cH p2 fun o ho aN=>rv (.tmp 56) (.tmp 57) ho (fe ay (H.f0 (hd 0 (by decide)))) (fe ay (hg)) H.chn.row aV cz (by omega) ?_
    intro v' w2 hb2 he2;refine⟨bU x 58 v',v',_,fp aN,hS,uk ag H.f0,fun h=>(ut ag H.f1 h).next he2,uk ag H.f3,uk ag H.f4,.inr (.inl ⟨(bT ag).2 (.inl rfl),fun h=>s5 (gE ag h),cA _ _ _,rfl⟩),uz ag H.fz,H.chn.next hb2 he2⟩
   ·exact absurd s2 hu
   ·exact absurd (fI p5 hsh s5 2 (by decide)) hu
  ·obtain⟨hu,hd⟩:=cF p3 hi
   refine cH p3 fun o ho aN=>wh ho (by rw[(kT [56,57,58,59,60,61,4] a x (t:=3) (by decide))];exact h3) (oP w') ?_
   refine⟨bU x 59 (.pointer (some ⟨bx,3,none⟩)),cur,l,fp aN,hS,uk ag H.f0,us ag H.f1,fun _=>cA _ _ _,uk ag H.f4, ?_,uz ag H.fz,H.chn⟩
   ·simpa only[bT ag,(nd:¬2=3),(nd:¬5=3),el,uo x 58 59,uo x 61 59] using H.st
  ·obtain⟨hu,hd⟩:=cF p4 hi
   refine cH p4 fun o ho aN=>rD ho (fe ay (H.f3 (hd 3 (by decide)))) (oN w' (H.chn.ext.row lZ an)) ?_
   refine⟨bU x 60 (.string nm),cur,l,fp aN,hS,uk ag H.f0,us ag H.f1,uk ag H.f3,fun _=>cA _ _ _, ?_,uz ag H.fz,H.chn⟩
   ·simpa only[bT ag,(nd:¬2=4),(nd:¬5=4),el,uo x 58 60,uo x 61 60] using H.st
  ·obtain⟨hu,hd⟩:=cF p5 hi
   rcases H.st with ⟨s2, -⟩ | ⟨s2,s5,hx,hl⟩ | ⟨s5, -⟩
   ·exact absurd (hd 2 (by decide)) s2
   ·refine cH p5 fun o ho aN=>vV (.tmp 58) (.tmp 60) ho (fe ay (hx)) (fe ay (H.f4 (hd 4 (by decide)))) H.chn.row cz (by rw[hl,bg,List.length_singleton];omega) ?_
    intro v' w2 hb2 he2;refine⟨bU x 61 v',v',_,fp aN,hS,uk ag H.f0,fun h=>(ut ag H.f1 h).next he2,uk ag H.f3,uk ag H.f4,.inr (.inr (⟨(bT ag).2 (.inl rfl),cA _ _ _,by rw[hl]⟩)),fun h=>absurd (fI p6 hsh (gE ag h) 5 (by decide)) hu,H.chn.next hb2 he2⟩
   ·exact absurd s5 hu
  ·obtain⟨hu,hd⟩:=cF p6 hi
   refine cH p6 fun o ho aN=>uH ho ?_
   refine⟨bU x 4 (x 61),cur,l,by rw[aN,(jQ [56,57,58,59,60,61,4] a x (d:=61) (by decide) (by decide) (by rw[ay];decide)),lA _ _ _ _ _ (by decide) (by decide)],hS,uk ag H.f0,us ag H.f1,uk ag H.f3,uk ag H.f4, ?_,fun _=>by rw[cA,j8 (by decide)],H.chn⟩
   ·simpa only[bT ag,(nd:¬2=6),(nd:¬5=6),el,uo x 58 4,uo x 61 4] using H.st
 ·rintro L a' w' ⟨x,cur,l,rfl,H⟩ ce
  have hs:=H.size;have u0:=cG p0 ce (by omega) (by simp)
  have u1:=cG p1 ce (by omega) (by simp)
  have u2:=cG p2 ce (by omega) (mc u0 (mc u1 mn))
  have u3:=cG p3 ce (by omega) (by simp)
  have u4:=cG p4 ce (by omega) (mc u3 mn)
  have u5:=cG p5 ce (by omega) (mc u2 (mc u4 mn))
  have u6:=cG p6 ce (by omega) (mc u0 (mc u1 (mc u2 (mc u3 (mc u4 (mc u5 mn))))))
  rcases H.st with ⟨-,sz, -⟩ | ⟨-,sz, -⟩ | ⟨-,hx,hl⟩
  ·exact absurd u5 sz
  ·exact absurd u5 sz
  ·exact hQ x w' cur l H.chn.row hl H.chn.ext ((H.fz u6).trans hx)
structure CndF (B:Nat) (w0:World) (v:Value) (r:List UInt8) (bx:Nat) (nm:ByteArray) (pat:Value) (M:List UInt8→Prop) (L:Array Bool) (x:Nat→Value) (w:World) (cur:Value) (l:List UInt8):Prop where
 size:L.size=8
 f0:Up L 0→x 30=v
 f1:Up L 1→x 31=pat
 f4:Up L 4→x 34=.pointer (some ⟨bx,3,none⟩)
 f5:Up L 5→x 35=.string nm
 st:(¬Up L 2∧¬Up L 3∧¬Up L 6∧cur=v∧l=r)∨(Up L 2∧¬Up L 3∧¬Up L 6∧x 32=cur∧(M) l)∨(Up L 3∧¬Up L 6∧x 33=cur∧(fun l=>∃l0,M l0∧l=l0++[32,46,32]) l)∨(Up L 6∧x 36=cur∧(fun l=>∃l0,M l0∧l=l0++[32,46,32]++nm.data.toList) l)
 fz:Up L 7→x 4=x 36
 chn:Chn B w0 v w cur l
theorem Jw {ops:Array Oper} {id:Nat} {Q:Exit→Act→World→Prop} {a:Act} {w:World} {v:Value} {r:List UInt8} {B:Nat} {bx:Nat} {row:Obj} {nm:ByteArray} {pat:Value} {M:List UInt8→Prop}
  (p0:ci ops 0 (.move (.tmp 0)) 30 [])
  (p1:ci ops 1 (.load 27 (.tmp 3)) 31 [])
  (p2:ci ops 2 (.call {callee:=.value (.func 77),args:= #[.tmp 30,.tmp 31,.const (.string ⟨#[]⟩)],argTypes:= #[48,27,9]}) 32 [0,1])
  (p3:ci ops 3 (.call {callee:=.builtin .append,args:= #[.tmp 32,.const (.string ⟨#[32,46,32]⟩)],argTypes:= #[48,9]}) 33 [2])
  (p4:ci ops 4 (.fieldAddr 27 (.tmp 3) 3) 34 [])
  (p5:ci ops 5 (.load 9 (.tmp 34)) 35 [4])
  (p6:ci ops 6 (.call {callee:=.builtin .append,args:= #[.tmp 33,.tmp 35],argTypes:= #[48,9]}) 36 [3,5])
  (p7:ci ops 7 (.assign (.tmp 36)) 4 [0,1,2,3,4,5,6])
  (hn:ops.size=8) (ay:a.tmps.size=65) (h0:a.eval (.tmp 0)=v) (hv:bm w B v r) (hB:B≤w.heap.size)
  (hr:r.length+140000≤100000000) (h3:a.eval (.tmp 3)=.pointer (some ⟨bx,0,none⟩)) (an:w.heap[bx]? =some row) (lZ:some bx≠v.ownBlock) (dq:nm.size≤16) (oP:∀W,(Instr.fieldAt 27 (.pointer (some ⟨bx,0,none⟩)) 3).run prog W=.ok (.pointer (some ⟨bx,3,none⟩)) W) (oN:∀W:World,W.heap[bx]? =some row→(Instr.loadAt 9 (.pointer (some ⟨bx,3,none⟩))).run prog W=.ok (.string nm) W) (hlp:∀W:World,W.heap[bx]? =some row→(Instr.loadAt 27 (.pointer (some ⟨bx,0,none⟩))).run prog W=.ok pat W) (hM:∀l,M l→l.length+100≤100000000)
  (hC:∀w1,bm w1 B v r→Ext w w1 v v→Calls prog 77 #[v,pat,.string ⟨#[]⟩] w1 fun e w2=>∃v2,e=.returned v2∧∃r2,bm w2 B v2 r2∧Ext w1 w2 v v2∧M r2)
  (hQ:∀x w2 v2 l2,bm w2 B v2 l2→(fun l=>∃l0,M l0∧l=l0++[32,46,32]++nm.data.toList) l2→Ext w w2 v v2→x 4=v2→Q .normal (fl a [30,31,32,33,34,35,36,4] x) w2):(Code.region id ops true).wp prog Q a w:=by
 refine uj (I:=fun L a' w'=>∃x cur l,a'=fl a [30,31,32,33,34,35,36,4] x∧CndF B w v r bx nm pat M L x w' cur l) rfl ?_ ?_ ?_
 ·have hd:Below w.heap.size w w.drew:=(aW _ _).drew
  exact⟨fun d=>a.eval (.tmp d),v,r,(sM _ a).symm,by rw[hn];rfl,fun h=>absurd h cC,fun h=>absurd h cC,fun h=>absurd h cC,fun h=>absurd h cC,.inl ⟨cC,cC,cC,rfl,rfl⟩,fun h=>absurd h cC,hv.later hd,Ext.below v hd⟩
 ·rintro L a' w' i ⟨x,cur,l,rfl,H⟩ hsh hi
  have hs:=H.size;have au:i < 8:=by
   obtain⟨-,o,ho, -⟩:=nZ.1 hi;have:=(bC.1 ho).1;omega
  have ag:i < L.size:=by rw[hs];exact au
  have hS:(L.setIfInBounds i true).size=8:=by simp[hs]
  have cz:B≤w'.heap.size:=bJ hB H.chn.ext.grown.size;rcases (show i=0∨i=1∨i=2∨i=3∨i=4∨i=5∨i=6∨i=7 by omega) with rfl | rfl | rfl | rfl | rfl | rfl | rfl | rfl
  ·obtain⟨hu,hd⟩:=cF p0 hi
   refine cH p0 fun o ho aN=>uG ho ?_
   refine⟨bU x 30 v,cur,l,by rw[aN,(kT [30,31,32,33,34,35,36,4] a x (t:=0) (by decide)),h0,lA _ _ _ _ _ (by decide) (by decide)],hS,fun _=>cA _ _ _,uk ag H.f1,uk ag H.f4,uk ag H.f5, ?_,uz ag H.fz,H.chn⟩
   ·simpa only[bT ag,(nd:¬2=0),(nd:¬3=0),(nd:¬6=0),el,uo x 32 30,uo x 33 30,uo x 36 30] using H.st
  ·obtain⟨hu,hd⟩:=cF p1 hi
   refine cH p1 fun o ho aN=>rD ho (by rw[(kT [30,31,32,33,34,35,36,4] a x (t:=3) (by decide))];exact h3) (hlp w' (H.chn.ext.row lZ an)) ?_
   refine⟨bU x 31 (pat),cur,l,fp aN,hS,uk ag H.f0,fun _=>cA _ _ _,uk ag H.f4,uk ag H.f5, ?_,uz ag H.fz,H.chn⟩
   ·simpa only[bT ag,(nd:¬2=1),(nd:¬3=1),(nd:¬6=1),el,uo x 32 31,uo x 33 31,uo x 36 31] using H.st
  ·obtain⟨hu,hd⟩:=cF p2 hi
   rcases H.st with ⟨s2,s3,s6,rfl,rfl⟩ | ⟨s2, -⟩ | ⟨s3, -⟩ | ⟨s6, -⟩
   ·refine cH p2 fun o ho aN=>xo ho func77 rfl rfl _ (by simp only[pN,ib,kK];rw[(jQ [30,31,32,33,34,35,36,4] a x (d:=30) (by decide) (by decide) (by rw[ay];decide)),(jQ [30,31,32,33,34,35,36,4] a x (d:=31) (by decide) (by decide) (by rw[ay];decide)),H.f0 (hd 0 (by decide)),H.f1 (hd 1 (by decide))];rfl) ((hC w' H.chn.row H.chn.ext).mono ?_)
    rintro e w2 ⟨v2,rfl,r2,hb2,he2,tH⟩;refine⟨v2,rfl,bU x 32 v2,v2,r2,fp aN,hS,uk ag H.f0,uk ag H.f1,uk ag H.f4,uk ag H.f5,.inr (.inl ⟨(bT ag).2 (.inl rfl),fun h=>s3 (gE ag h),fun h=>s6 (gE ag h),cA _ _ _,tH⟩),uz ag H.fz,H.chn.next hb2 he2⟩
   ·exact absurd s2 hu
   ·exact absurd (fI p3 hsh s3 2 (by decide)) hu
   ·exact absurd (fI p3 hsh (fI p6 hsh s6 3 (by decide)) 2 (by decide)) hu
  ·obtain⟨hu,hd⟩:=cF p3 hi
   rcases H.st with ⟨s2, -⟩ | ⟨s2,s3,s6,hx,hl⟩ | ⟨s3, -⟩ | ⟨s6, -⟩
   ·exact absurd (hd 2 (by decide)) s2
   ·refine cH p3 fun o ho aN=>vV (.tmp 32) (.const (.string ⟨#[32,46,32]⟩)) ho (fe ay (hx)) rfl H.chn.row cz (by have:=hM l hl;show l.length+3≤_;omega) ?_
    intro v' w2 hb2 he2;refine⟨bU x 33 v',v',_,fp aN,hS,uk ag H.f0,uk ag H.f1,uk ag H.f4,uk ag H.f5,.inr (.inr (.inl ⟨(bT ag).2 (.inl rfl),fun h=>s6 (gE ag h),cA _ _ _,⟨l,hl,rfl⟩⟩)),uz ag H.fz,H.chn.next hb2 he2⟩
   ·exact absurd s3 hu
   ·exact absurd (fI p6 hsh s6 3 (by decide)) hu
  ·obtain⟨hu,hd⟩:=cF p4 hi
   refine cH p4 fun o ho aN=>wh ho (by rw[(kT [30,31,32,33,34,35,36,4] a x (t:=3) (by decide))];exact h3) (oP w') ?_
   refine⟨bU x 34 (.pointer (some ⟨bx,3,none⟩)),cur,l,fp aN,hS,uk ag H.f0,uk ag H.f1,fun _=>cA _ _ _,uk ag H.f5, ?_,uz ag H.fz,H.chn⟩
   ·simpa only[bT ag,(nd:¬2=4),(nd:¬3=4),(nd:¬6=4),el,uo x 32 34,uo x 33 34,uo x 36 34] using H.st
  ·obtain⟨hu,hd⟩:=cF p5 hi
   refine cH p5 fun o ho aN=>rD ho (fe ay (H.f4 (hd 4 (by decide)))) (oN w' (H.chn.ext.row lZ an)) ?_
   refine⟨bU x 35 (.string nm),cur,l,fp aN,hS,uk ag H.f0,uk ag H.f1,uk ag H.f4,fun _=>cA _ _ _, ?_,uz ag H.fz,H.chn⟩
   ·simpa only[bT ag,(nd:¬2=5),(nd:¬3=5),(nd:¬6=5),el,uo x 32 35,uo x 33 35,uo x 36 35] using H.st
  ·obtain⟨hu,hd⟩:=cF p6 hi
   rcases H.st with ⟨-,s3, -⟩ | ⟨-,s3, -⟩ | ⟨s3,s6,hx,hl⟩ | ⟨s6, -⟩
   ·exact absurd (hd 3 (by decide)) s3
   ·exact absurd (hd 3 (by decide)) s3
   ·refine cH p6 fun o ho aN=>vV (.tmp 33) (.tmp 35) ho (fe ay (hx)) (fe ay (H.f5 (hd 5 (by decide)))) H.chn.row cz (by obtain⟨l0,h0,e0⟩:=hl;have:=hM l0 h0;rw[e0,bg];show l0.length+3+nm.size≤_;omega) ?_
    intro v' w2 hb2 he2;refine⟨bU x 36 v',v',_,fp aN,hS,uk ag H.f0,uk ag H.f1,uk ag H.f4,uk ag H.f5,.inr (.inr (.inr (⟨(bT ag).2 (.inl rfl),cA _ _ _,by obtain⟨l0,h0,e0⟩:=hl;exact⟨l0,h0,by rw[e0]⟩⟩))),fun h=>absurd (fI p7 hsh (gE ag h) 6 (by decide)) hu,H.chn.next hb2 he2⟩
   ·exact absurd s6 hu
  ·obtain⟨hu,hd⟩:=cF p7 hi
   refine cH p7 fun o ho aN=>uH ho ?_
   refine⟨bU x 4 (x 36),cur,l,by rw[aN,(jQ [30,31,32,33,34,35,36,4] a x (d:=36) (by decide) (by decide) (by rw[ay];decide)),lA _ _ _ _ _ (by decide) (by decide)],hS,uk ag H.f0,uk ag H.f1,uk ag H.f4,uk ag H.f5, ?_,fun _=>by rw[cA,j8 (by decide)],H.chn⟩
   ·simpa only[bT ag,(nd:¬2=7),(nd:¬3=7),(nd:¬6=7),el,uo x 32 4,uo x 33 4,uo x 36 4] using H.st
 ·rintro L a' w' ⟨x,cur,l,rfl,H⟩ ce
  have hs:=H.size;have u0:=cG p0 ce (by omega) (by simp)
  have u1:=cG p1 ce (by omega) (by simp)
  have u2:=cG p2 ce (by omega) (mc u0 (mc u1 mn))
  have u3:=cG p3 ce (by omega) (mc u2 mn)
  have u4:=cG p4 ce (by omega) (by simp)
  have u5:=cG p5 ce (by omega) (mc u4 mn)
  have u6:=cG p6 ce (by omega) (mc u3 (mc u5 mn))
  have u7:=cG p7 ce (by omega) (mc u0 (mc u1 (mc u2 (mc u3 (mc u4 (mc u5 (mc u6 mn)))))))
  rcases H.st with ⟨-, -,sz, -⟩ | ⟨-, -,sz, -⟩ | ⟨-,sz, -⟩ | ⟨-,hx,hl⟩
  ·exact absurd u6 sz
  ·exact absurd u6 sz
  ·exact absurd u6 sz
  ·exact hQ x w' cur l H.chn.row hl H.chn.ext ((H.fz u7).trans hx)
structure ImmF (B:Nat) (w0:World) (v:Value) (r:List UInt8) (bx:Nat) (nm:ByteArray) (pat:Value) (M:List UInt8→Prop) (L:Array Bool) (x:Nat→Value) (w:World) (cur:Value) (l:List UInt8):Prop where
 size:L.size=8
 f0:Up L 0→x 39=v
 f1:Up L 1→x 40=pat
 f4:Up L 4→x 43=.pointer (some ⟨bx,3,none⟩)
 f5:Up L 5→x 44=.string nm
 st:(¬Up L 2∧¬Up L 3∧¬Up L 6∧cur=v∧l=r)∨(Up L 2∧¬Up L 3∧¬Up L 6∧x 41=cur∧(M) l)∨(Up L 3∧¬Up L 6∧x 42=cur∧(fun l=>∃l0,M l0∧l=l0++[32,36,32]) l)∨(Up L 6∧x 45=cur∧(fun l=>∃l0,M l0∧l=l0++[32,36,32]++nm.data.toList) l)
 fz:Up L 7→x 4=x 45
 chn:Chn B w0 v w cur l
theorem Js {ops:Array Oper} {id:Nat} {Q:Exit→Act→World→Prop} {a:Act} {w:World} {v:Value} {r:List UInt8} {B:Nat} {bx:Nat} {row:Obj} {nm:ByteArray} {pat:Value} {M:List UInt8→Prop}
  (p0:ci ops 0 (.move (.tmp 0)) 39 [])
  (p1:ci ops 1 (.load 27 (.tmp 3)) 40 [])
  (p2:ci ops 2 (.call {callee:=.value (.func 77),args:= #[.tmp 39,.tmp 40,.const (.string ⟨#[]⟩)],argTypes:= #[48,27,9]}) 41 [0,1])
  (p3:ci ops 3 (.call {callee:=.builtin .append,args:= #[.tmp 41,.const (.string ⟨#[32,36,32]⟩)],argTypes:= #[48,9]}) 42 [2])
  (p4:ci ops 4 (.fieldAddr 27 (.tmp 3) 3) 43 [])
  (p5:ci ops 5 (.load 9 (.tmp 43)) 44 [4])
  (p6:ci ops 6 (.call {callee:=.builtin .append,args:= #[.tmp 42,.tmp 44],argTypes:= #[48,9]}) 45 [3,5])
  (p7:ci ops 7 (.assign (.tmp 45)) 4 [0,1,2,3,4,5,6])
  (hn:ops.size=8) (ay:a.tmps.size=65) (h0:a.eval (.tmp 0)=v) (hv:bm w B v r) (hB:B≤w.heap.size)
  (hr:r.length+140000≤100000000) (h3:a.eval (.tmp 3)=.pointer (some ⟨bx,0,none⟩)) (an:w.heap[bx]? =some row) (lZ:some bx≠v.ownBlock) (dq:nm.size≤16) (oP:∀W,(Instr.fieldAt 27 (.pointer (some ⟨bx,0,none⟩)) 3).run prog W=.ok (.pointer (some ⟨bx,3,none⟩)) W) (oN:∀W:World,W.heap[bx]? =some row→(Instr.loadAt 9 (.pointer (some ⟨bx,3,none⟩))).run prog W=.ok (.string nm) W) (hlp:∀W:World,W.heap[bx]? =some row→(Instr.loadAt 27 (.pointer (some ⟨bx,0,none⟩))).run prog W=.ok pat W) (hM:∀l,M l→l.length+100≤100000000)
  (hC:∀w1,bm w1 B v r→Ext w w1 v v→Calls prog 77 #[v,pat,.string ⟨#[]⟩] w1 fun e w2=>∃v2,e=.returned v2∧∃r2,bm w2 B v2 r2∧Ext w1 w2 v v2∧M r2)
  (hQ:∀x w2 v2 l2,bm w2 B v2 l2→(fun l=>∃l0,M l0∧l=l0++[32,36,32]++nm.data.toList) l2→Ext w w2 v v2→x 4=v2→Q .normal (fl a [39,40,41,42,43,44,45,4] x) w2):(Code.region id ops true).wp prog Q a w:=by
 refine uj (I:=fun L a' w'=>∃x cur l,a'=fl a [39,40,41,42,43,44,45,4] x∧ImmF B w v r bx nm pat M L x w' cur l) rfl ?_ ?_ ?_
 ·have hd:Below w.heap.size w w.drew:=(aW _ _).drew
  exact⟨fun d=>a.eval (.tmp d),v,r,(sM _ a).symm,by rw[hn];rfl,fun h=>absurd h cC,fun h=>absurd h cC,fun h=>absurd h cC,fun h=>absurd h cC,.inl ⟨cC,cC,cC,rfl,rfl⟩,fun h=>absurd h cC,hv.later hd,Ext.below v hd⟩
 ·rintro L a' w' i ⟨x,cur,l,rfl,H⟩ hsh hi
  have hs:=H.size;have au:i < 8:=by
   obtain⟨-,o,ho, -⟩:=nZ.1 hi;have:=(bC.1 ho).1;omega
  have ag:i < L.size:=by rw[hs];exact au
  have hS:(L.setIfInBounds i true).size=8:=by simp[hs]
  have cz:B≤w'.heap.size:=bJ hB H.chn.ext.grown.size;rcases (show i=0∨i=1∨i=2∨i=3∨i=4∨i=5∨i=6∨i=7 by omega) with rfl | rfl | rfl | rfl | rfl | rfl | rfl | rfl
  ·obtain⟨hu,hd⟩:=cF p0 hi
   refine cH p0 fun o ho aN=>uG ho ?_
   refine⟨bU x 39 v,cur,l,by rw[aN,(kT [39,40,41,42,43,44,45,4] a x (t:=0) (by decide)),h0,lA _ _ _ _ _ (by decide) (by decide)],hS,fun _=>cA _ _ _,uk ag H.f1,uk ag H.f4,uk ag H.f5, ?_,uz ag H.fz,H.chn⟩
   ·simpa only[bT ag,(nd:¬2=0),(nd:¬3=0),(nd:¬6=0),el,uo x 41 39,uo x 42 39,uo x 45 39] using H.st
  ·obtain⟨hu,hd⟩:=cF p1 hi
   refine cH p1 fun o ho aN=>rD ho (by rw[(kT [39,40,41,42,43,44,45,4] a x (t:=3) (by decide))];exact h3) (hlp w' (H.chn.ext.row lZ an)) ?_
   refine⟨bU x 40 (pat),cur,l,fp aN,hS,uk ag H.f0,fun _=>cA _ _ _,uk ag H.f4,uk ag H.f5, ?_,uz ag H.fz,H.chn⟩
   ·simpa only[bT ag,(nd:¬2=1),(nd:¬3=1),(nd:¬6=1),el,uo x 41 40,uo x 42 40,uo x 45 40] using H.st
  ·obtain⟨hu,hd⟩:=cF p2 hi
   rcases H.st with ⟨s2,s3,s6,rfl,rfl⟩ | ⟨s2, -⟩ | ⟨s3, -⟩ | ⟨s6, -⟩
   ·refine cH p2 fun o ho aN=>xo ho func77 rfl rfl _ (by simp only[pN,ib,kK];rw[(jQ [39,40,41,42,43,44,45,4] a x (d:=39) (by decide) (by decide) (by rw[ay];decide)),(jQ [39,40,41,42,43,44,45,4] a x (d:=40) (by decide) (by decide) (by rw[ay];decide)),H.f0 (hd 0 (by decide)),H.f1 (hd 1 (by decide))];rfl) ((hC w' H.chn.row H.chn.ext).mono ?_)
    rintro e w2 ⟨v2,rfl,r2,hb2,he2,tH⟩;refine⟨v2,rfl,bU x 41 v2,v2,r2,fp aN,hS,uk ag H.f0,uk ag H.f1,uk ag H.f4,uk ag H.f5,.inr (.inl ⟨(bT ag).2 (.inl rfl),fun h=>s3 (gE ag h),fun h=>s6 (gE ag h),cA _ _ _,tH⟩),uz ag H.fz,H.chn.next hb2 he2⟩
   ·exact absurd s2 hu
   ·exact absurd (fI p3 hsh s3 2 (by decide)) hu
   ·exact absurd (fI p3 hsh (fI p6 hsh s6 3 (by decide)) 2 (by decide)) hu
  ·obtain⟨hu,hd⟩:=cF p3 hi
   rcases H.st with ⟨s2, -⟩ | ⟨s2,s3,s6,hx,hl⟩ | ⟨s3, -⟩ | ⟨s6, -⟩
   ·exact absurd (hd 2 (by decide)) s2
   ·refine cH p3 fun o ho aN=>vV (.tmp 41) (.const (.string ⟨#[32,36,32]⟩)) ho (fe ay (hx)) rfl H.chn.row cz (by have:=hM l hl;show l.length+3≤_;omega) ?_
    intro v' w2 hb2 he2;refine⟨bU x 42 v',v',_,fp aN,hS,uk ag H.f0,uk ag H.f1,uk ag H.f4,uk ag H.f5,.inr (.inr (.inl ⟨(bT ag).2 (.inl rfl),fun h=>s6 (gE ag h),cA _ _ _,⟨l,hl,rfl⟩⟩)),uz ag H.fz,H.chn.next hb2 he2⟩
   ·exact absurd s3 hu
   ·exact absurd (fI p6 hsh s6 3 (by decide)) hu
  ·obtain⟨hu,hd⟩:=cF p4 hi
   refine cH p4 fun o ho aN=>wh ho (by rw[(kT [39,40,41,42,43,44,45,4] a x (t:=3) (by decide))];exact h3) (oP w') ?_
   refine⟨bU x 43 (.pointer (some ⟨bx,3,none⟩)),cur,l,fp aN,hS,uk ag H.f0,uk ag H.f1,fun _=>cA _ _ _,uk ag H.f5, ?_,uz ag H.fz,H.chn⟩
   ·simpa only[bT ag,(nd:¬2=4),(nd:¬3=4),(nd:¬6=4),el,uo x 41 43,uo x 42 43,uo x 45 43] using H.st
  ·obtain⟨hu,hd⟩:=cF p5 hi
   refine cH p5 fun o ho aN=>rD ho (fe ay (H.f4 (hd 4 (by decide)))) (oN w' (H.chn.ext.row lZ an)) ?_
   refine⟨bU x 44 (.string nm),cur,l,fp aN,hS,uk ag H.f0,uk ag H.f1,uk ag H.f4,fun _=>cA _ _ _, ?_,uz ag H.fz,H.chn⟩
   ·simpa only[bT ag,(nd:¬2=5),(nd:¬3=5),(nd:¬6=5),el,uo x 41 44,uo x 42 44,uo x 45 44] using H.st
  ·obtain⟨hu,hd⟩:=cF p6 hi
   rcases H.st with ⟨-,s3, -⟩ | ⟨-,s3, -⟩ | ⟨s3,s6,hx,hl⟩ | ⟨s6, -⟩
   ·exact absurd (hd 3 (by decide)) s3
   ·exact absurd (hd 3 (by decide)) s3
   ·refine cH p6 fun o ho aN=>vV (.tmp 42) (.tmp 44) ho (fe ay (hx)) (fe ay (H.f5 (hd 5 (by decide)))) H.chn.row cz (by obtain⟨l0,h0,e0⟩:=hl;have:=hM l0 h0;rw[e0,bg];show l0.length+3+nm.size≤_;omega) ?_
    intro v' w2 hb2 he2;refine⟨bU x 45 v',v',_,fp aN,hS,uk ag H.f0,uk ag H.f1,uk ag H.f4,uk ag H.f5,.inr (.inr (.inr (⟨(bT ag).2 (.inl rfl),cA _ _ _,by obtain⟨l0,h0,e0⟩:=hl;exact⟨l0,h0,by rw[e0]⟩⟩))),fun h=>absurd (fI p7 hsh (gE ag h) 6 (by decide)) hu,H.chn.next hb2 he2⟩
   ·exact absurd s6 hu
  ·obtain⟨hu,hd⟩:=cF p7 hi
   refine cH p7 fun o ho aN=>uH ho ?_
   refine⟨bU x 4 (x 45),cur,l,by rw[aN,(jQ [39,40,41,42,43,44,45,4] a x (d:=45) (by decide) (by decide) (by rw[ay];decide)),lA _ _ _ _ _ (by decide) (by decide)],hS,uk ag H.f0,uk ag H.f1,uk ag H.f4,uk ag H.f5, ?_,fun _=>by rw[cA,j8 (by decide)],H.chn⟩
   ·simpa only[bT ag,(nd:¬2=7),(nd:¬3=7),(nd:¬6=7),el,uo x 41 4,uo x 42 4,uo x 45 4] using H.st
 ·rintro L a' w' ⟨x,cur,l,rfl,H⟩ ce
  have hs:=H.size;have u0:=cG p0 ce (by omega) (by simp)
  have u1:=cG p1 ce (by omega) (by simp)
  have u2:=cG p2 ce (by omega) (mc u0 (mc u1 mn))
  have u3:=cG p3 ce (by omega) (mc u2 mn)
  have u4:=cG p4 ce (by omega) (by simp)
  have u5:=cG p5 ce (by omega) (mc u4 mn)
  have u6:=cG p6 ce (by omega) (mc u3 (mc u5 mn))
  have u7:=cG p7 ce (by omega) (mc u0 (mc u1 (mc u2 (mc u3 (mc u4 (mc u5 (mc u6 mn)))))))
  rcases H.st with ⟨-, -,sz, -⟩ | ⟨-, -,sz, -⟩ | ⟨-,sz, -⟩ | ⟨-,hx,hl⟩
  ·exact absurd u6 sz
  ·exact absurd u6 sz
  ·exact absurd u6 sz
  ·exact hQ x w' cur l H.chn.row hl H.chn.ext ((H.fz u7).trans hx)
end Go.Proofs.YtlmnjbipfacniaaGreatDoor
