/- The writer of lines: expressions without brackets around the -/
import Derived.Test.YtlmnjbipfacniaaGreatDoorRegionSinkMs
import Derived.Test.YtlmnjbipfacniaaGreatDoorQuote4Ms
set_option maxRecDepth 100000
set_option maxHeartbeats 8000000
namespace Go.Proofs.YtlmnjbipfacniaaGreatDoor
open Go.Proofs.Tryz
open Go.RowKit
theorem eQ (t:ByteArray):t.data.toList.length=t.size:=by simp
theorem Lo (n:Int) (h0: -9223372036854775808≤n) (h1:n≤9223372036854775807):(Lib.itoa n).length≤20:=by
 have hk:∀k u:Nat,1≤k→u < 10 ^ k→(Lib.decDigits u).length≤k:=by
  intro k
  induction k with
  | zero=>intro u h;omega
  | succ k ih=>
   intro u _ h;rw[Lib.decDigits]
   by_cases q:u < 10
   ·rw[dif_pos q];show 1≤k+1;omega
   ·rw[dif_neg q,be,List.length_singleton]
    have h2:u / 10 < 10 ^ k:=by rw[Nat.pow_succ] at h;omega
    by_cases k0:k=0
    ·subst k0
     simp only[Nat.pow_zero] at h2;omega
    ·have:=ih (u / 10) (by omega) h2;omega
 have hd:∀u:Nat,u≤9223372036854775808→(Lib.decDigits u).length≤19:=fun u hu=>hk 19 u (by decide) (by omega)
 unfold Lib.itoa;split
 ·rw[List.length_cons];have:=hd n.natAbs (by omega);omega
 ·have:=hd n.toNat (by omega);omega
theorem BE {T:PT} {i:Nat} (h:i < T.len):(T.kid i).cnt+1≤T.cnt:=by
 rw[T.cnt_eq];have:∀n,i < n→(T.kid i).cnt≤fy (fun i=>(T.kid i).cnt) n:=by
  intro n
  induction n with
  | zero=>intro h;omega
  | succ n ih=>
   intro h;rw[fy]
   by_cases e:i=n
   ·subst e;omega
   ·have:=ih (by omega);omega
 have:=this T.len h;omega
theorem un {w:World} (h:gJ w) (K:Nat) (k:Int) (hk:k=(K:Int)) (h1:1≤K) (h2:K≤13):w.cell? ⟨0,K * 5,none⟩=some (.string (cI k))∧w.cell? ⟨0,K * 5+1,none⟩=some (.int .i64 (bs k))∧w.cell? ⟨0,K * 5+2,none⟩=some (.bool (ck k))∧w.cell? ⟨0,K * 5+3,none⟩=some (.int .i64 (bF k))∧w.cell? ⟨0,K * 5+4,none⟩=some (.int .i64 (bE k)):=by
 subst hk;exact h K h1 h2
theorem bare_1 {T:PT} (hk:T.k=1) (ht:T.t.size≤65536):rT T:=by
 intro W w B z v o f hE hT hb hz hW aA bU;obtain⟨s0,s1,s2,s3,s4⟩:=un (hE.shx.later hb) 1 1 rfl (by decide) (by decide)
 have j8:(0:Nat) < w.heap.size:=da _ _ s0;have hgl':¬w.heap.size=0:=by omega
 have qU:¬w.heap.size+1=0:=by omega
 have iT:=T.cnt_pos;have hzl:z < w.heap.size:=(bC.1 hW.blk).1;have bX:w.heap.size≠z:=by omega
 have nk:w.heap.size+1≠z:=by omega
 obtain⟨w1,aI⟩:∃w1,w1=(w.alloc (.cells #[.int .i64 1,.string T.t,.int .i64 T.n,.string T.nm,.slice T.xa T.len T.cap] 24)).alloc (.cells #[.string (cI 1),.int .i64 (bs 1),.bool (ck 1),.int .i64 (bF 1),.int .i64 (bE 1)] 128):=⟨_,rfl⟩;have bp:Below w.heap.size w w1:=by rw[aI];exact(ba _).alloc (by simp) _
 have am:w1.heap[w.heap.size]? =some (.cells #[.int .i64 1,.string T.t,.int .i64 T.n,.string T.nm,.slice T.xa T.len T.cap] 24 (0,0)):=by rw[aI];exact ci (by simp) (ax rfl)
 have gW:w1.heap[w.heap.size+1]? =some (.cells #[.string (cI 1),.int .i64 (bs 1),.bool (ck 1),.int .i64 (bF 1),.int .i64 (bE 1)] 128 (0,0)):=by rw[aI];exact ax (by simp)
 have H1:=ab ((Wn.start hb hW).below bp);have bA:=ab am;have qB:=ab gW;have bL:Hid (w1.heap.size=w.heap.size+1+1):=ab (by rw[aI];simp)
 have bG:Hid ((w.alloc (.cells #[.int .i64 1,.string T.t,.int .i64 T.n,.string T.nm,.slice T.xa T.len T.cap] 24)).alloc (.cells #[.string (cI 1),.int .i64 (bs 1),.bool (ck 1),.int .i64 (bF 1),.int .i64 (bE 1)] 128)=w1):=ab (aI.symm);have HZ:=ab (And.intro hE hz);have HT:=ab hT;unfold pv;rw[hk];have HI:Hid (ar T.exI=et T.t.data.toList):=ab (by rw[T.exI_eq,hk];exact lf _)
 have HQ:=ab (IB T.t hE (aa H1).bel hz (aa H1).wr ht (by omega))
 clear hk aA hT hE hb hW bp am gW aI;generalize cI 1=sgx at *;generalize bs 1=lvx at *;generalize ck 1=nmx at *;generalize bF 1=lsx at *;generalize bE 1=msx at *;go_enter func80,ntmps80;go_wp2_with fail;rw[aa bG];refine(aa HQ).mono ?_;rintro e w2 ⟨rfl,bg⟩;obtain⟨v3,o3,f3,h3, -⟩:=(aa H1).sub (aa HZ).2 bg;have HF:=ab (h3.done (t:=ar T.exI) (c:=40 * T.cnt - 2) (by rw[aa HI];rfl) (by omega))
 clear bg h3;go_wp2_with fail;go_end0;exact⟨rfl,aa HF⟩
theorem bare_2 {T:PT} (hk:T.k=2):rT T:=by
 intro W w B z v o f hE hT hb hz hW aA bU;obtain⟨s0,s1,s2,s3,s4⟩:=un (hE.shx.later hb) 2 2 rfl (by decide) (by decide)
 have j8:(0:Nat) < w.heap.size:=da _ _ s0;have hgl':¬w.heap.size=0:=by omega
 have qU:¬w.heap.size+1=0:=by omega
 have iT:=T.cnt_pos;have hzl:z < w.heap.size:=(bC.1 hW.blk).1;have bX:w.heap.size≠z:=by omega
 have nk:w.heap.size+1≠z:=by omega
 obtain⟨w1,aI⟩:∃w1,w1=(w.alloc (.cells #[.int .i64 2,.string T.t,.int .i64 T.n,.string T.nm,.slice T.xa T.len T.cap] 24)).alloc (.cells #[.string (cI 2),.int .i64 (bs 2),.bool (ck 2),.int .i64 (bF 2),.int .i64 (bE 2)] 128):=⟨_,rfl⟩;have bp:Below w.heap.size w w1:=by rw[aI];exact(ba _).alloc (by simp) _
 have am:w1.heap[w.heap.size]? =some (.cells #[.int .i64 2,.string T.t,.int .i64 T.n,.string T.nm,.slice T.xa T.len T.cap] 24 (0,0)):=by rw[aI];exact ci (by simp) (ax rfl)
 have gW:w1.heap[w.heap.size+1]? =some (.cells #[.string (cI 2),.int .i64 (bs 2),.bool (ck 2),.int .i64 (bF 2),.int .i64 (bE 2)] 128 (0,0)):=by rw[aI];exact ax (by simp)
 have H1:=ab ((Wn.start hb hW).below bp);have bA:=ab am;have qB:=ab gW;have bL:Hid (w1.heap.size=w.heap.size+1+1):=ab (by rw[aI];simp)
 have bG:Hid ((w.alloc (.cells #[.int .i64 2,.string T.t,.int .i64 T.n,.string T.nm,.slice T.xa T.len T.cap] 24)).alloc (.cells #[.string (cI 2),.int .i64 (bs 2),.bool (ck 2),.int .i64 (bF 2),.int .i64 (bE 2)] 128)=w1):=ab (aI.symm);have HZ:=ab (And.intro hE hz);have HT:=ab hT;unfold pv;rw[hk];have HI:Hid (ar T.exI=Lib.itoa T.n):=ab (by rw[T.exI_eq,hk];exact lf _)
 have vg:=hT.num;have HFI:=ab (fun (W1:World) (h:Below W.heap.size W W1)=>show Calls prog 127 #[.int .i64 T.n,.int .i64 10] W1 fun e w'=>e=.returned (.string ⟨(Lib.itoa T.n).toArray⟩)∧Below W1.heap.size W1 w' from (Tryz.strconv_FormatInt_10 T.n vg.1 vg.2 W1 (hE.pow W1 h)).mono fun e w' q=>by
  obtain⟨h1,k,os,rfl⟩:=q;exact⟨h1,Lib.below_grow W1.heap.size W1 (aw _) k os⟩)
 have hil:=Lo T.n vg.1 vg.2;obtain⟨it,hit⟩:∃it:ByteArray,it=⟨(Lib.itoa T.n).toArray⟩:=⟨_,rfl⟩;have vc:it.size≤20:=by rw[hit];show (Lib.itoa T.n).toArray.size≤20;rw[lJ];exact hil
 have HIT:Hid (it.data.toList=Lib.itoa T.n):=ab (by rw[hit])
 rw[←hit] at HFI;clear hk aA hT hE hb hW bp am gW aI;clear vg hil hit;generalize cI 2=sgx at *;generalize bs 2=lvx at *;generalize ck 2=nmx at *;generalize bF 2=lsx at *;generalize bE 2=msx at *;go_enter func80,ntmps80;go_wp2_with fail;rw[aa bG];refine(aa HFI w1 (aa H1).bel).mono ?_;rintro e w2 ⟨rfl,hb2⟩;have H2:=ab ((aa H1).below hb2);clear hb2 H1 HFI;have dz:Hid (Calls prog 42 #[.pointer (some ⟨z,0,none⟩),.slice (some ⟨w2.heap.size,0,none⟩) 1 1] (w2.alloc (.cells #[.string it] 9)) _):=ab ((aa H2).put (aa HZ).1 (aa HZ).2 (by omega) [it] (by simp) (fun t ht=>by simp only[dO,eg,fN] at ht;subst ht;omega) 20 (by show (bH [it]).length≤20;unfold bH;simp only[gU,iE,be,List.length_nil,eQ];omega))
 go_wp2_with fail;refine(aa dz).mono ?_;rintro e w3 ⟨rfl,v3,o3,f3,h3,dl⟩;have H3:=ab h3;clear h3 dl dz H2;have HF:=ab ((aa H3).done (t:=ar T.exI) (c:=40 * T.cnt - 2) (by rw[aa HI];rw[fw,aa HIT];rfl) (by omega))
 go_wp2_with fail;go_end0;exact⟨rfl,aa HF⟩
theorem bare_3 {T:PT} (hk:T.k=3) (dm:ca T.nm=true):rT T:=by
 intro W w B z v o f hE hT hb hz hW aA bU;obtain⟨s0,s1,s2,s3,s4⟩:=un (hE.shx.later hb) 3 3 rfl (by decide) (by decide)
 have j8:(0:Nat) < w.heap.size:=da _ _ s0;have hgl':¬w.heap.size=0:=by omega
 have qU:¬w.heap.size+1=0:=by omega
 have iT:=T.cnt_pos;have hzl:z < w.heap.size:=(bC.1 hW.blk).1;have bX:w.heap.size≠z:=by omega
 have nk:w.heap.size+1≠z:=by omega
 obtain⟨w1,aI⟩:∃w1,w1=(w.alloc (.cells #[.int .i64 3,.string T.t,.int .i64 T.n,.string T.nm,.slice T.xa T.len T.cap] 24)).alloc (.cells #[.string (cI 3),.int .i64 (bs 3),.bool (ck 3),.int .i64 (bF 3),.int .i64 (bE 3)] 128):=⟨_,rfl⟩;have bp:Below w.heap.size w w1:=by rw[aI];exact(ba _).alloc (by simp) _
 have am:w1.heap[w.heap.size]? =some (.cells #[.int .i64 3,.string T.t,.int .i64 T.n,.string T.nm,.slice T.xa T.len T.cap] 24 (0,0)):=by rw[aI];exact ci (by simp) (ax rfl)
 have gW:w1.heap[w.heap.size+1]? =some (.cells #[.string (cI 3),.int .i64 (bs 3),.bool (ck 3),.int .i64 (bF 3),.int .i64 (bE 3)] 128 (0,0)):=by rw[aI];exact ax (by simp)
 have H1:=ab ((Wn.start hb hW).below bp);have bA:=ab am;have qB:=ab gW;have bL:Hid (w1.heap.size=w.heap.size+1+1):=ab (by rw[aI];simp)
 have bG:Hid ((w.alloc (.cells #[.int .i64 3,.string T.t,.int .i64 T.n,.string T.nm,.slice T.xa T.len T.cap] 24)).alloc (.cells #[.string (cI 3),.int .i64 (bs 3),.bool (ck 3),.int .i64 (bF 3),.int .i64 (bE 3)] 128)=w1):=ab (aI.symm);have HZ:=ab (And.intro hE hz);have HT:=ab hT;unfold pv;rw[hk];have HI:Hid (ar T.exI=T.nm.data.toList):=ab (by rw[T.exI_eq,hk];exact lf _)
 have hns:=(mq dm).2.1;clear hk aA hT hE hb hW bp am gW aI;generalize cI 3=sgx at *;generalize bs 3=lvx at *;generalize ck 3=nmx at *;generalize bF 3=lsx at *;generalize bE 3=msx at *;have cg:Hid (Calls prog 42 #[.pointer (some ⟨z,0,none⟩),.slice (some ⟨w1.heap.size,0,none⟩) 1 1] (w1.alloc (.cells #[.string T.nm] 9)) _):=ab ((aa H1).put (aa HZ).1 (aa HZ).2 (by omega) [T.nm] (by simp) (fun t ht=>by simp only[dO,eg,fN] at ht;subst ht;omega) 16 (by show (bH [T.nm]).length≤16;unfold bH;simp only[gU,iE,be,List.length_nil,eQ];omega))
 rw[aa bL] at cg;go_enter func80,ntmps80;go_wp2_with fail;rw[aa bG];refine(aa cg).mono ?_;rintro e w2 ⟨rfl,v2,o2,f2,h2,cJ⟩;have H2:=ab h2;clear h2 cJ cg H1;have HF:=ab ((aa H2).done (t:=ar T.exI) (c:=40 * T.cnt - 2) (by rw[aa HI];rw[fw];rfl) (by omega))
 go_wp2_with fail;go_end0;exact⟨rfl,aa HF⟩
theorem bare_4 {T:PT} (hk:T.k=4) (dm:ca T.nm=true) (hl:T.len=1) (lM:∀i,i < T.len→sY (T.kid i)):rT T:=by
 intro W w B z v o f hE hT hb hz hW aA bU;obtain⟨s0,s1,s2,s3,s4⟩:=un (hE.shx.later hb) 4 4 rfl (by decide) (by decide)
 have j8:(0:Nat) < w.heap.size:=da _ _ s0;have hgl':¬w.heap.size=0:=by omega
 have qU:¬w.heap.size+1=0:=by omega
 have iT:=T.cnt_pos;have hzl:z < w.heap.size:=(bC.1 hW.blk).1;have bX:w.heap.size≠z:=by omega
 have nk:w.heap.size+1≠z:=by omega
 obtain⟨w1,aI⟩:∃w1,w1=(w.alloc (.cells #[.int .i64 4,.string T.t,.int .i64 T.n,.string T.nm,.slice T.xa T.len T.cap] 24)).alloc (.cells #[.string (cI 4),.int .i64 (bs 4),.bool (ck 4),.int .i64 (bF 4),.int .i64 (bE 4)] 128):=⟨_,rfl⟩;have bp:Below w.heap.size w w1:=by rw[aI];exact(ba _).alloc (by simp) _
 have am:w1.heap[w.heap.size]? =some (.cells #[.int .i64 4,.string T.t,.int .i64 T.n,.string T.nm,.slice T.xa T.len T.cap] 24 (0,0)):=by rw[aI];exact ci (by simp) (ax rfl)
 have gW:w1.heap[w.heap.size+1]? =some (.cells #[.string (cI 4),.int .i64 (bs 4),.bool (ck 4),.int .i64 (bF 4),.int .i64 (bE 4)] 128 (0,0)):=by rw[aI];exact ax (by simp)
 have H1:=ab ((Wn.start hb hW).below bp);have bA:=ab am;have qB:=ab gW;have bL:Hid (w1.heap.size=w.heap.size+1+1):=ab (by rw[aI];simp)
 have bG:Hid ((w.alloc (.cells #[.int .i64 4,.string T.t,.int .i64 T.n,.string T.nm,.slice T.xa T.len T.cap] 24)).alloc (.cells #[.string (cI 4),.int .i64 (bs 4),.bool (ck 4),.int .i64 (bF 4),.int .i64 (bE 4)] 128)=w1):=ab (aI.symm);have HZ:=ab (And.intro hE hz);have HT:=ab hT;unfold pv;rw[hk];have e60:(ah 60).size=1:=rfl;have e62:(ah 62).size=1:=rfl;have HI:Hid (ar T.exI=(T.nm.data.toList++[60])++(ar ((T.kid 0).atl 0)++[62])):=ab (by
  rw[T.exI_eq,hk];show ar (wd T.nm::sg 60::(T.kidI 0 0++[sg 62]))=_;rw[qM (by omega),dq,dq,fW]
  show T.nm.data.toList++([60]++(ar ((T.kid 0).atl 0)++[62]))=_;simp)
 have hns:=(mq dm).2.1;have dF:1+(T.kid 0).cnt≤T.cnt:=by have:=BE (T:=T) (i:=0) (by omega);omega
 obtain⟨q0,nB⟩:∃q,q=T.o+0 * 5:=⟨_,rfl⟩;have hix0:∀w,(Instr.indexAt 22 (.slice T.xa T.len T.cap) (.int .i64 0)).run prog w=.ok (.pointer (some ⟨T.b,q0,none⟩)) w:=fun w=>by rw[nB];exact ms hT (k:=0) (by omega) w
 have uY:=ab (fun (W1:World) (h:Below W.heap.size W W1)=>show W1.cell? ⟨T.b,q0,none⟩=some (.int .i64 (T.kid 0).k)∧W1.cell? ⟨T.b,q0+1,none⟩=some (.string (T.kid 0).t)∧W1.cell? ⟨T.b,q0+2,none⟩=some (.int .i64 (T.kid 0).n)∧W1.cell? ⟨T.b,q0+3,none⟩=some (.string (T.kid 0).nm)∧W1.cell? ⟨T.b,q0+4,none⟩=some (.slice (T.kid 0).xa (T.kid 0).len (T.kid 0).cap) from by rw[nB];exact(PT.In.later h hT).cells (i:=0) (by omega))
 have uX:=ab (fun (lv:Int) (w2:World) (v2:Value) (o2:List UInt8) (f2:Bool) h3 h4 h5=>show Calls prog 43 #[.pointer (some ⟨z,0,none⟩),.agg #[.int .i64 (T.kid 0).k,.string (T.kid 0).t,.int .i64 (T.kid 0).n,.string (T.kid 0).nm,.slice (T.kid 0).xa (T.kid 0).len (T.kid 0).cap],.int .i64 lv] w2 fun e w'=>ik B z w2 v2 o2 (ar ((T.kid 0).atl lv)) f2 (40 * (T.kid 0).cnt) e w' from lM 0 (by omega) W w2 B z v2 o2 f2 lv hE (hT.kids (by omega)) h3 hz h4 ((iK aA).2 0 (by omega)) h5)
 clear hk aA hT hE hb hW bp am gW aI lM hl;clear nB;generalize cI 4=sgx at *;generalize bs 4=lvx at *;generalize ck 4=nmx at *;generalize bF 4=lsx at *;generalize bE 4=msx at *;have cg:Hid (Calls prog 42 #[.pointer (some ⟨z,0,none⟩),.slice (some ⟨w1.heap.size,0,none⟩) 2 2] (w1.alloc (.cells #[.string T.nm,.string ⟨#[60]⟩] 9)) _):=ab ((aa H1).put (aa HZ).1 (aa HZ).2 (by omega) [T.nm,ah 60] (by simp) (fun t ht=>by simp only[dO,eg,fN] at ht;rcases ht with rfl | rfl <;> omega) 17 (by show (bH [T.nm,ah 60]).length≤17;unfold bH;simp only[gU,iE,be,List.length_nil,eQ];omega))
 rw[aa bL] at cg;go_enter func80,ntmps80;go_wp2_with fail;rw[aa bG];refine(aa cg).mono ?_;rintro e w2 ⟨rfl,v2,o2,f2,h2,cJ⟩;have cV:=ab (cJ.keep (aa H1).wr (aa bA) (by decide) bX)
 have tB:=ab (cJ.keep (aa H1).wr (aa qB) (by decide) nk)
 have H2:=ab h2;clear h2 cJ cg H1;obtain⟨c0,c1,c2,c3,c4⟩:=nV (aa cV);obtain⟨k0,k1,k2,k3,k4⟩:=aa uY w2 (aa H2).bel;have eq:=ab (aa uX 0 w2 v2 o2 f2 (aa H2).bel (aa H2).wr ((aa H2).len2 (by omega)))
 go_wp2_with fail;refine(aa eq).mono ?_;rintro e w3 ⟨rfl,bg⟩;obtain⟨v3,o3,f3,h3, -⟩:=(aa H2).sub (aa HZ).2 bg;have H3:=ab h3;clear bg h3 eq H2 c0 c1 c2 c3 c4 k0 k1 k2 k3 k4 uX uY;have gq:Hid (Calls prog 42 #[.pointer (some ⟨z,0,none⟩),.slice (some ⟨w3.heap.size,0,none⟩) 1 1] (w3.alloc (.cells #[.string ⟨#[62]⟩] 9)) _):=ab ((aa H3).put (aa HZ).1 (aa HZ).2 (by omega) [ah 62] (by simp) (fun t ht=>by simp only[dO,eg,fN] at ht;subst ht;omega) 1 (by show (bH [ah 62]).length≤1;unfold bH;simp only[gU,iE,be,List.length_nil,eQ];omega))
 go_wp2_with fail;refine(aa gq).mono ?_;rintro e w4 ⟨rfl,v4,o4,f4,h4,cv⟩;have H4:=ab h4;clear h4 cv gq H3;have HF:=ab ((aa H4).done (t:=ar T.exI) (c:=40 * T.cnt - 2) (by rw[aa HI];rw[fw,kx,fw];show []++(T.nm.data.toList++[60])++ar ((T.kid 0).atl 0)++[62]=_;simp) (by omega))
 go_wp2_with fail;go_end0;exact⟨rfl,aa HF⟩
open Go.RowKit
theorem bare_5 {T:PT} (hk:T.k=5) (hl:T.len=1) (lM:∀i,i < T.len→sY (T.kid i)):rT T:=by
 intro W w B z v o f hE hT hb hz hW aA bU;obtain⟨s0,s1,s2,s3,s4⟩:=un (hE.shx.later hb) 5 5 rfl (by decide) (by decide)
 have j8:(0:Nat) < w.heap.size:=da _ _ s0;have hgl':¬w.heap.size=0:=by omega
 have qU:¬w.heap.size+1=0:=by omega
 have iT:=T.cnt_pos;have hzl:z < w.heap.size:=(bC.1 hW.blk).1;have bX:w.heap.size≠z:=by omega
 have nk:w.heap.size+1≠z:=by omega
 obtain⟨w1,aI⟩:∃w1,w1=(w.alloc (.cells #[.int .i64 5,.string T.t,.int .i64 T.n,.string T.nm,.slice T.xa T.len T.cap] 24)).alloc (.cells #[.string (cI 5),.int .i64 (bs 5),.bool (ck 5),.int .i64 (bF 5),.int .i64 (bE 5)] 128):=⟨_,rfl⟩;have bp:Below w.heap.size w w1:=by rw[aI];exact(ba _).alloc (by simp) _
 have am:w1.heap[w.heap.size]? =some (.cells #[.int .i64 5,.string T.t,.int .i64 T.n,.string T.nm,.slice T.xa T.len T.cap] 24 (0,0)):=by rw[aI];exact ci (by simp) (ax rfl)
 have gW:w1.heap[w.heap.size+1]? =some (.cells #[.string (cI 5),.int .i64 (bs 5),.bool (ck 5),.int .i64 (bF 5),.int .i64 (bE 5)] 128 (0,0)):=by rw[aI];exact ax (by simp)
 have H1:=ab ((Wn.start hb hW).below bp);have bA:=ab am;have qB:=ab gW;have bL:Hid (w1.heap.size=w.heap.size+1+1):=ab (by rw[aI];simp)
 have bG:Hid ((w.alloc (.cells #[.int .i64 5,.string T.t,.int .i64 T.n,.string T.nm,.slice T.xa T.len T.cap] 24)).alloc (.cells #[.string (cI 5),.int .i64 (bs 5),.bool (ck 5),.int .i64 (bF 5),.int .i64 (bE 5)] 128)=w1):=ab (aI.symm);have HZ:=ab (And.intro hE hz);have HT:=ab hT;unfold pv;rw[hk];have e0:(ah 36).size=1:=rfl;have HI:Hid (ar T.exI=[36]++ar ((T.kid 0).atl 5)):=ab (by
  rw[T.exI_eq,hk];show ar (sg 36::T.kidI 5 0)=_;rw[qM (by omega),dq];rfl)
 have dF:=BE (T:=T) (i:=0) (by omega)
 obtain⟨q0,nB⟩:∃q,q=T.o+0 * 5:=⟨_,rfl⟩;have hix0:∀w,(Instr.indexAt 22 (.slice T.xa T.len T.cap) (.int .i64 0)).run prog w=.ok (.pointer (some ⟨T.b,q0,none⟩)) w:=fun w=>by rw[nB];exact ms hT (k:=0) (by omega) w
 have uY:=ab (fun (W1:World) (h:Below W.heap.size W W1)=>show W1.cell? ⟨T.b,q0,none⟩=some (.int .i64 (T.kid 0).k)∧W1.cell? ⟨T.b,q0+1,none⟩=some (.string (T.kid 0).t)∧W1.cell? ⟨T.b,q0+2,none⟩=some (.int .i64 (T.kid 0).n)∧W1.cell? ⟨T.b,q0+3,none⟩=some (.string (T.kid 0).nm)∧W1.cell? ⟨T.b,q0+4,none⟩=some (.slice (T.kid 0).xa (T.kid 0).len (T.kid 0).cap) from by rw[nB];exact(PT.In.later h hT).cells (i:=0) (by omega))
 have uX:=ab (fun (lv:Int) (w2:World) (v2:Value) (o2:List UInt8) (f2:Bool) h3 h4 h5=>show Calls prog 43 #[.pointer (some ⟨z,0,none⟩),.agg #[.int .i64 (T.kid 0).k,.string (T.kid 0).t,.int .i64 (T.kid 0).n,.string (T.kid 0).nm,.slice (T.kid 0).xa (T.kid 0).len (T.kid 0).cap],.int .i64 lv] w2 fun e w'=>ik B z w2 v2 o2 (ar ((T.kid 0).atl lv)) f2 (40 * (T.kid 0).cnt) e w' from lM 0 (by omega) W w2 B z v2 o2 f2 lv hE (hT.kids (by omega)) h3 hz h4 ((iK aA).2 0 (by omega)) h5)
 clear hk aA hT hE hb hW bp am gW aI lM hl;clear nB;generalize wz:cI 5=sgx at *;have wz:sgx=⟨#[36]⟩:=wz.symm.trans rfl;subst wz;generalize hlvx:bs 5=lvx at *;have tX:Hid (lvx=5):=ab (hlvx.symm.trans rfl);clear hlvx;generalize ck 5=nmx at *;generalize bF 5=lsx at *;generalize bE 5=msx at *;have cg:Hid (Calls prog 42 #[.pointer (some ⟨z,0,none⟩),.slice (some ⟨w1.heap.size,0,none⟩) 1 1] (w1.alloc (.cells #[.string ⟨#[36]⟩] 9)) _):=ab ((aa H1).put (aa HZ).1 (aa HZ).2 (by omega) [ah 36] (by simp) (fun t ht=>by simp only[dO,eg,fN] at ht;subst ht;omega) 1 (by show (bH [ah 36]).length≤1;unfold bH;simp only[gU,iE,be,List.length_nil,eQ];omega))
 rw[aa bL] at cg;go_enter func80,ntmps80;go_wp2_with fail;rw[aa bG];refine(aa cg).mono ?_;rintro e w2 ⟨rfl,v2,o2,f2,h2,cJ⟩;have cV:=ab (cJ.keep (aa H1).wr (aa bA) (by decide) bX)
 have tB:=ab (cJ.keep (aa H1).wr (aa qB) (by decide) nk)
 have H2:=ab h2;clear h2 cJ cg H1;rw[show ((5:Int))=lvx from (aa tX).symm] at HI;go_wp2_with fail;obtain⟨x0,x1,x2,x3,x4⟩:=nV (aa cV);obtain⟨y0,y1,y2,y3,y4⟩:=nV (aa tB);obtain⟨k0,k1,k2,k3,k4⟩:=aa uY w2 (aa H2).bel;obtain⟨S0,aN⟩:∃S0:World→Prop,S0=fun W1=>W1.cell? ⟨w.heap.size,4,none⟩=some (.slice T.xa T.len T.cap)∧W1.cell? ⟨w.heap.size+1,1,none⟩=some (.int .i64 lvx)∧W1.cell? ⟨T.b,q0,none⟩=some (.int .i64 (T.kid 0).k)∧W1.cell? ⟨T.b,q0+1,none⟩=some (.string (T.kid 0).t)∧W1.cell? ⟨T.b,q0+2,none⟩=some (.int .i64 (T.kid 0).n)∧W1.cell? ⟨T.b,q0+3,none⟩=some (.string (T.kid 0).nm)∧W1.cell? ⟨T.b,q0+4,none⟩=some (.slice (T.kid 0).xa (T.kid 0).len (T.kid 0).cap):=⟨_,rfl⟩
 have ap:=ab aN;have bm:S0 w2.drew:=by rw[aN];exact⟨x4,y1,k0,k1,k2,k3,k4⟩
 have ro:=(aa H2).below (aV _ _).drew;have eq:=ab (aa uX lvx w2.drew v2 o2 f2 ro.bel ro.wr (ro.len2 (by omega)))
 have ua:=ab ro;clear aN ro x0 x1 x2 x3 x4 y0 y1 y2 y3 y4 k0 k1 k2 k3 k4;refine gt 7 S0 ?_;intro F;refine aK F 0 ap bm ?_
 (try simp only[aH,aG])
 (try go_frame)
 refine aK F 1 ap bm ?_
 (try simp only[aH,aJ,aG])
 (try go_frame)
 refine aK F 2 ap bm ?_
 (try simp only[aH,aJ,aG])
 (try go_frame)
 refine aK F 3 ap bm ?_
 (try simp only[aH,aJ,aG])
 (try go_frame)
 refine aK F 4 ap bm ?_
 (try simp only[aH,aJ,aG])
 (try go_frame)
 refine aK F 5 ap bm ?_
 (try simp only[aH,aJ,aG])
 (try go_frame)
 refine aK F 6 ap bm ?_
 (try simp only[aH,aJ,aG])
 (try go_frame)
 refine gy (by kernel_rfl) rfl (by kernel_rfl) (fun K4 bw=> ?_)
 go_simp;refine(aa eq).mono ?_;rintro e w3 ⟨rfl,bg⟩;obtain⟨v3,o3,f3,h3,dl⟩:=(aa ua).sub (aa HZ).2 bg;have dc:=ab (dl.keep (aa ua).wr (aa cV) (by decide) bX)
 have AG:=ab (dl.keep (aa ua).wr (aa tB) (by decide) nk)
 have H3:=ab h3;refine bw _ _ ?_
 (try simp only[aH,aJ,aG])
 (try go_frame)
 clear bw K4 F bm ap bg h3 dl eq ua H2;have HF:=ab ((aa H3).done (t:=ar T.exI) (c:=40 * T.cnt - 2) (by rw[aa HI];rw[fw];rfl) (by omega))
 go_wp2_with fail;go_end0;exact⟨rfl,aa HF⟩
theorem bare_7 {T:PT} (hk:T.k=7) (hl:T.len=1) (lM:∀i,i < T.len→sY (T.kid i)):rT T:=by
 intro W w B z v o f hE hT hb hz hW aA bU;obtain⟨s0,s1,s2,s3,s4⟩:=un (hE.shx.later hb) 7 7 rfl (by decide) (by decide)
 have j8:(0:Nat) < w.heap.size:=da _ _ s0;have hgl':¬w.heap.size=0:=by omega
 have qU:¬w.heap.size+1=0:=by omega
 have iT:=T.cnt_pos;have hzl:z < w.heap.size:=(bC.1 hW.blk).1;have bX:w.heap.size≠z:=by omega
 have nk:w.heap.size+1≠z:=by omega
 obtain⟨w1,aI⟩:∃w1,w1=(w.alloc (.cells #[.int .i64 7,.string T.t,.int .i64 T.n,.string T.nm,.slice T.xa T.len T.cap] 24)).alloc (.cells #[.string (cI 7),.int .i64 (bs 7),.bool (ck 7),.int .i64 (bF 7),.int .i64 (bE 7)] 128):=⟨_,rfl⟩;have bp:Below w.heap.size w w1:=by rw[aI];exact(ba _).alloc (by simp) _
 have am:w1.heap[w.heap.size]? =some (.cells #[.int .i64 7,.string T.t,.int .i64 T.n,.string T.nm,.slice T.xa T.len T.cap] 24 (0,0)):=by rw[aI];exact ci (by simp) (ax rfl)
 have gW:w1.heap[w.heap.size+1]? =some (.cells #[.string (cI 7),.int .i64 (bs 7),.bool (ck 7),.int .i64 (bF 7),.int .i64 (bE 7)] 128 (0,0)):=by rw[aI];exact ax (by simp)
 have H1:=ab ((Wn.start hb hW).below bp);have bA:=ab am;have qB:=ab gW;have bL:Hid (w1.heap.size=w.heap.size+1+1):=ab (by rw[aI];simp)
 have bG:Hid ((w.alloc (.cells #[.int .i64 7,.string T.t,.int .i64 T.n,.string T.nm,.slice T.xa T.len T.cap] 24)).alloc (.cells #[.string (cI 7),.int .i64 (bs 7),.bool (ck 7),.int .i64 (bF 7),.int .i64 (bE 7)] 128)=w1):=ab (aI.symm);have HZ:=ab (And.intro hE hz);have HT:=ab hT;unfold pv;rw[hk];have e0:(ah 45).size=1:=rfl;have HI:Hid (ar T.exI=[45]++ar ((T.kid 0).atl 4)):=ab (by
  rw[T.exI_eq,hk];show ar (sg 45::T.kidI 4 0)=_;rw[qM (by omega),dq];rfl)
 have dF:=BE (T:=T) (i:=0) (by omega)
 obtain⟨q0,nB⟩:∃q,q=T.o+0 * 5:=⟨_,rfl⟩;have hix0:∀w,(Instr.indexAt 22 (.slice T.xa T.len T.cap) (.int .i64 0)).run prog w=.ok (.pointer (some ⟨T.b,q0,none⟩)) w:=fun w=>by rw[nB];exact ms hT (k:=0) (by omega) w
 have uY:=ab (fun (W1:World) (h:Below W.heap.size W W1)=>show W1.cell? ⟨T.b,q0,none⟩=some (.int .i64 (T.kid 0).k)∧W1.cell? ⟨T.b,q0+1,none⟩=some (.string (T.kid 0).t)∧W1.cell? ⟨T.b,q0+2,none⟩=some (.int .i64 (T.kid 0).n)∧W1.cell? ⟨T.b,q0+3,none⟩=some (.string (T.kid 0).nm)∧W1.cell? ⟨T.b,q0+4,none⟩=some (.slice (T.kid 0).xa (T.kid 0).len (T.kid 0).cap) from by rw[nB];exact(PT.In.later h hT).cells (i:=0) (by omega))
 have uX:=ab (fun (lv:Int) (w2:World) (v2:Value) (o2:List UInt8) (f2:Bool) h3 h4 h5=>show Calls prog 43 #[.pointer (some ⟨z,0,none⟩),.agg #[.int .i64 (T.kid 0).k,.string (T.kid 0).t,.int .i64 (T.kid 0).n,.string (T.kid 0).nm,.slice (T.kid 0).xa (T.kid 0).len (T.kid 0).cap],.int .i64 lv] w2 fun e w'=>ik B z w2 v2 o2 (ar ((T.kid 0).atl lv)) f2 (40 * (T.kid 0).cnt) e w' from lM 0 (by omega) W w2 B z v2 o2 f2 lv hE (hT.kids (by omega)) h3 hz h4 ((iK aA).2 0 (by omega)) h5)
 clear hk aA hT hE hb hW bp am gW aI lM hl;clear nB;generalize wz:cI 7=sgx at *;have wz:sgx=⟨#[45]⟩:=wz.symm.trans rfl;subst wz;generalize hlvx:bs 7=lvx at *;have tX:Hid (lvx=4):=ab (hlvx.symm.trans rfl);clear hlvx;generalize ck 7=nmx at *;generalize bF 7=lsx at *;generalize bE 7=msx at *;have cg:Hid (Calls prog 42 #[.pointer (some ⟨z,0,none⟩),.slice (some ⟨w1.heap.size,0,none⟩) 1 1] (w1.alloc (.cells #[.string ⟨#[45]⟩] 9)) _):=ab ((aa H1).put (aa HZ).1 (aa HZ).2 (by omega) [ah 45] (by simp) (fun t ht=>by simp only[dO,eg,fN] at ht;subst ht;omega) 1 (by show (bH [ah 45]).length≤1;unfold bH;simp only[gU,iE,be,List.length_nil,eQ];omega))
 rw[aa bL] at cg;go_enter func80,ntmps80;go_wp2_with fail;rw[aa bG];refine(aa cg).mono ?_;rintro e w2 ⟨rfl,v2,o2,f2,h2,cJ⟩;have cV:=ab (cJ.keep (aa H1).wr (aa bA) (by decide) bX)
 have tB:=ab (cJ.keep (aa H1).wr (aa qB) (by decide) nk)
 have H2:=ab h2;clear h2 cJ cg H1;rw[show ((4:Int))=lvx from (aa tX).symm] at HI;go_wp2_with fail;obtain⟨x0,x1,x2,x3,x4⟩:=nV (aa cV);obtain⟨y0,y1,y2,y3,y4⟩:=nV (aa tB);obtain⟨k0,k1,k2,k3,k4⟩:=aa uY w2 (aa H2).bel;obtain⟨S0,aN⟩:∃S0:World→Prop,S0=fun W1=>W1.cell? ⟨w.heap.size,4,none⟩=some (.slice T.xa T.len T.cap)∧W1.cell? ⟨w.heap.size+1,1,none⟩=some (.int .i64 lvx)∧W1.cell? ⟨T.b,q0,none⟩=some (.int .i64 (T.kid 0).k)∧W1.cell? ⟨T.b,q0+1,none⟩=some (.string (T.kid 0).t)∧W1.cell? ⟨T.b,q0+2,none⟩=some (.int .i64 (T.kid 0).n)∧W1.cell? ⟨T.b,q0+3,none⟩=some (.string (T.kid 0).nm)∧W1.cell? ⟨T.b,q0+4,none⟩=some (.slice (T.kid 0).xa (T.kid 0).len (T.kid 0).cap):=⟨_,rfl⟩
 have ap:=ab aN;have bm:S0 w2.drew:=by rw[aN];exact⟨x4,y1,k0,k1,k2,k3,k4⟩
 have ro:=(aa H2).below (aV _ _).drew;have eq:=ab (aa uX lvx w2.drew v2 o2 f2 ro.bel ro.wr (ro.len2 (by omega)))
 have ua:=ab ro;clear aN ro x0 x1 x2 x3 x4 y0 y1 y2 y3 y4 k0 k1 k2 k3 k4;refine gt 7 S0 ?_;intro F;refine aK F 0 ap bm ?_
 (try simp only[aH,aG])
 (try go_frame)
 refine aK F 1 ap bm ?_
 (try simp only[aH,aJ,aG])
 (try go_frame)
 refine aK F 2 ap bm ?_
 (try simp only[aH,aJ,aG])
 (try go_frame)
 refine aK F 3 ap bm ?_
 (try simp only[aH,aJ,aG])
 (try go_frame)
 refine aK F 4 ap bm ?_
 (try simp only[aH,aJ,aG])
 (try go_frame)
 refine aK F 5 ap bm ?_
 (try simp only[aH,aJ,aG])
 (try go_frame)
 refine aK F 6 ap bm ?_
 (try simp only[aH,aJ,aG])
 (try go_frame)
 refine gy (by kernel_rfl) rfl (by kernel_rfl) (fun K4 bw=> ?_)
 go_simp;refine(aa eq).mono ?_;rintro e w3 ⟨rfl,bg⟩;obtain⟨v3,o3,f3,h3,dl⟩:=(aa ua).sub (aa HZ).2 bg;have dc:=ab (dl.keep (aa ua).wr (aa cV) (by decide) bX)
 have AG:=ab (dl.keep (aa ua).wr (aa tB) (by decide) nk)
 have H3:=ab h3;refine bw _ _ ?_
 (try simp only[aH,aJ,aG])
 (try go_frame)
 clear bw K4 F bm ap bg h3 dl eq ua H2;have HF:=ab ((aa H3).done (t:=ar T.exI) (c:=40 * T.cnt - 2) (by rw[aa HI];rw[fw];rfl) (by omega))
 go_wp2_with fail;go_end0;exact⟨rfl,aa HF⟩
end Go.Proofs.YtlmnjbipfacniaaGreatDoor
