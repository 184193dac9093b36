/- The writer of lines: expressions without brackets around the -/
import Derived.Test.YtlmnjbipfacniaaGreatDoorWrGMs
import Derived.Test.YtlmnjbipfacniaaGreatDoorStBMs
import Derived.Deep.Cut
import Derived.Deep.CutRange
set_option maxRecDepth 100000
set_option maxHeartbeats 16000000
namespace Go.Proofs.YtlmnjbipfacniaaGreatDoor
open Go.Proofs.Tryz
open Go.RowKit
theorem L9 {k:Int} (h1:8≤k) (h2:k≤13):cI k=ah (lI k)∧1≤bs k∧bs k≤3:=by
 have:k=8∨k=9∨k=10∨k=11∨k=12∨k=13:=by omega
 rcases this with rfl | rfl | rfl | rfl | rfl | rfl <;> exact⟨rfl,by decide,by decide⟩
theorem L4 {T:PT} (h:T.len=2):T.cnt=1+((T.kid 0).cnt+(T.kid 1).cnt):=by
 rw[T.cnt_eq,h];show 1+(0+(T.kid 0).cnt+(T.kid 1).cnt)=_;omega
theorem LN {T:PT} (h8:8≤T.k) (h13:T.k≤13) (hl:T.len=2) (lM:∀i,i < T.len→sY (T.kid i)):rT T:=by
 intro W w B z v o f hE hT hb hz hW aA bU;obtain⟨K,hkK⟩:∃K:Nat,T.k=(K:Int):=⟨T.k.toNat,by omega⟩
 obtain⟨s0,s1,s2,s3,s4⟩:=un (hE.shx.later hb) K (K:Int) rfl (by omega) (by omega)
 have j8:(0:Nat) < w.heap.size:=da _ _ s0;have hgl':¬w.heap.size=0:=by omega
 have qU:¬w.heap.size+1=0:=by omega
 have iT:=T.cnt_pos;have hzl:z < w.heap.size:=(bC.1 hW.blk).1;have bX:w.heap.size≠z:=by omega
 have nk:w.heap.size+1≠z:=by omega
 obtain⟨w1,aI⟩:∃w1,w1=(w.alloc (.cells #[.int .i64 (K:Int),.string T.t,.int .i64 T.n,.string T.nm,.slice T.xa T.len T.cap] 24)).alloc (.cells #[.string (cI (K:Int)),.int .i64 (bs (K:Int)),.bool (ck (K:Int)),.int .i64 (bF (K:Int)),.int .i64 (bE (K:Int))] 128):=⟨_,rfl⟩;have bp:Below w.heap.size w w1:=by rw[aI];exact(ba _).alloc (by simp) _
 have am:w1.heap[w.heap.size]? =some (.cells #[.int .i64 (K:Int),.string T.t,.int .i64 T.n,.string T.nm,.slice T.xa T.len T.cap] 24 (0,0)):=by rw[aI];exact ci (by simp) (ax rfl)
 have gW:w1.heap[w.heap.size+1]? =some (.cells #[.string (cI (K:Int)),.int .i64 (bs (K:Int)),.bool (ck (K:Int)),.int .i64 (bF (K:Int)),.int .i64 (bE (K:Int))] 128 (0,0)):=by rw[aI];exact ax (by simp)
 have H1:=ab ((Wn.start hb hW).below bp);have bA:=ab am;have qB:=ab gW;have bL:Hid (w1.heap.size=w.heap.size+1+1):=ab (by rw[aI];simp)
 have bG:Hid ((w.alloc (.cells #[.int .i64 (K:Int),.string T.t,.int .i64 T.n,.string T.nm,.slice T.xa T.len T.cap] 24)).alloc (.cells #[.string (cI (K:Int)),.int .i64 (bs (K:Int)),.bool (ck (K:Int)),.int .i64 (bF (K:Int)),.int .i64 (bE (K:Int))] 128)=w1):=ab (aI.symm);have HZ:=ab (And.intro hE hz);have HT:=ab hT;unfold pv;rw[hkK];obtain⟨l8,kL,hl3⟩:=L9 h8 h13;have HI:Hid (ar T.exI=(ar ((T.kid 0).atl (bs (K:Int)))++(([32]++[lI T.k])++[32]))++ar ((T.kid 1).atl (bs (K:Int)+1))):=ab (by
  rw[zT h8 hl,fW,dq,dq,dq,hkK];show ar ((T.kid 0).atl (bs (K:Int)))++([32]++([lI (K:Int)]++([32]++ar ((T.kid 1).atl (bs (K:Int)+1)))))=_;simp)
 have jQ:=L4 hl;rw[hkK] at l8 kL hl3 h8 h13;have u1:¬(K:Int) < 0:=by omega
 have u2:(K:Int) < 14:=by omega
 have r1:((K:Int)==1)=false:=bn;have r2:((K:Int)==2)=false:=bn;have r3:((K:Int)==3)=false:=bn;have r4:((K:Int)==4)=false:=bn;have r5:((K:Int)==5)=false:=bn;have r6:((K:Int)==6)=false:=bn;have r7:((K:Int)==7)=false:=bn;obtain⟨q0,nB⟩:∃q,q=T.o+0 * 5:=⟨_,rfl⟩;have hix0:∀w,(Instr.indexAt 22 (.slice T.xa T.len T.cap) (.int .i64 0)).run prog w=.ok (.pointer (some ⟨T.b,q0,none⟩)) w:=fun w=>by rw[nB];exact ms hT (k:=0) (by omega) w
 have uY:=ab (fun (W1:World) (h:Below W.heap.size W W1)=>show W1.cell? ⟨T.b,q0,none⟩=some (.int .i64 (T.kid 0).k)∧W1.cell? ⟨T.b,q0+1,none⟩=some (.string (T.kid 0).t)∧W1.cell? ⟨T.b,q0+2,none⟩=some (.int .i64 (T.kid 0).n)∧W1.cell? ⟨T.b,q0+3,none⟩=some (.string (T.kid 0).nm)∧W1.cell? ⟨T.b,q0+4,none⟩=some (.slice (T.kid 0).xa (T.kid 0).len (T.kid 0).cap) from by rw[nB];exact(PT.In.later h hT).cells (i:=0) (by omega))
 have uX:=ab (fun (lv:Int) (w2:World) (v2:Value) (o2:List UInt8) (f2:Bool) h3 h4 h5=>show Calls prog 43 #[.pointer (some ⟨z,0,none⟩),.agg #[.int .i64 (T.kid 0).k,.string (T.kid 0).t,.int .i64 (T.kid 0).n,.string (T.kid 0).nm,.slice (T.kid 0).xa (T.kid 0).len (T.kid 0).cap],.int .i64 lv] w2 fun e w'=>ik B z w2 v2 o2 (ar ((T.kid 0).atl lv)) f2 (40 * (T.kid 0).cnt) e w' from lM 0 (by omega) W w2 B z v2 o2 f2 lv hE (hT.kids (by omega)) h3 hz h4 ((iK aA).2 0 (by omega)) h5)
 obtain⟨q1,rb⟩:∃q,q=T.o+1 * 5:=⟨_,rfl⟩;have hix1:∀w,(Instr.indexAt 22 (.slice T.xa T.len T.cap) (.int .i64 1)).run prog w=.ok (.pointer (some ⟨T.b,q1,none⟩)) w:=fun w=>by rw[rb];exact ms hT (k:=1) (by omega) w
 have HKC1:=ab (fun (W1:World) (h:Below W.heap.size W W1)=>show W1.cell? ⟨T.b,q1,none⟩=some (.int .i64 (T.kid 1).k)∧W1.cell? ⟨T.b,q1+1,none⟩=some (.string (T.kid 1).t)∧W1.cell? ⟨T.b,q1+2,none⟩=some (.int .i64 (T.kid 1).n)∧W1.cell? ⟨T.b,q1+3,none⟩=some (.string (T.kid 1).nm)∧W1.cell? ⟨T.b,q1+4,none⟩=some (.slice (T.kid 1).xa (T.kid 1).len (T.kid 1).cap) from by rw[rb];exact(PT.In.later h hT).cells (i:=1) (by omega))
 have HKS1:=ab (fun (lv:Int) (w2:World) (v2:Value) (o2:List UInt8) (f2:Bool) h3 h4 h5=>show Calls prog 43 #[.pointer (some ⟨z,0,none⟩),.agg #[.int .i64 (T.kid 1).k,.string (T.kid 1).t,.int .i64 (T.kid 1).n,.string (T.kid 1).nm,.slice (T.kid 1).xa (T.kid 1).len (T.kid 1).cap],.int .i64 lv] w2 fun e w'=>ik B z w2 v2 o2 (ar ((T.kid 1).atl lv)) f2 (40 * (T.kid 1).cnt) e w' from lM 1 (by omega) W w2 B z v2 o2 f2 lv hE (hT.kids (by omega)) h3 hz h4 ((iK aA).2 1 (by omega)) h5)
 have HSG:Hid ((cI (K:Int)).data.toList=[lI T.k]):=ab (by rw[l8,hkK];rfl)
 have e0:(cI (K:Int)).size=1:=by rw[l8];rfl
 clear l8 h8 h13;clear hkK aA hT hE hb hW bp am gW aI lM hl;clear nB rb;generalize cI (K:Int)=sgx at *;generalize bs (K:Int)=lvx at *;generalize ck (K:Int)=nmx at *;generalize bF (K:Int)=lsx at *;generalize bE (K:Int)=msx at *;have hwp:IntKind.i64.wrap (lvx+1)=lvx+1:=(IntWalk.i64_left _).trans (IntWalk.wrap64_in _ (by omega))
 go_enter func80,ntmps80;go_wp2_with fail;rw[aa bG];obtain⟨x0,x1,x2,x3,x4⟩:=nV (aa bA);obtain⟨y0,y1,y2,y3,y4⟩:=nV (aa qB);obtain⟨k0,k1,k2,k3,k4⟩:=aa uY w1 (aa H1).bel;obtain⟨S0,aN⟩:∃S0:World→Prop,S0=fun W1=>W1.cell? ⟨w.heap.size,4,none⟩=some (.slice T.xa T.len T.cap)∧W1.cell? ⟨w.heap.size+1,1,none⟩=some (.int .i64 lvx)∧W1.cell? ⟨T.b,q0,none⟩=some (.int .i64 (T.kid 0).k)∧W1.cell? ⟨T.b,q0+1,none⟩=some (.string (T.kid 0).t)∧W1.cell? ⟨T.b,q0+2,none⟩=some (.int .i64 (T.kid 0).n)∧W1.cell? ⟨T.b,q0+3,none⟩=some (.string (T.kid 0).nm)∧W1.cell? ⟨T.b,q0+4,none⟩=some (.slice (T.kid 0).xa (T.kid 0).len (T.kid 0).cap):=⟨_,rfl⟩
 have ap:=ab aN;have bm:S0 w1.drew:=by rw[aN];exact⟨x4,y1,k0,k1,k2,k3,k4⟩
 have h1d:=(aa H1).below (aV _ _).drew;have HK1:=ab (aa uX lvx w1.drew v o f h1d.bel h1d.wr (h1d.len2 (by omega)))
 have HD1:=ab h1d;clear aN h1d x0 x1 x2 x3 x4 y0 y1 y2 y3 y4 k0 k1 k2 k3 k4;refine gt 7 S0 ?_;intro F;refine aK F 0 ap bm ?_
 (try simp only[aH,aG])
 (try go_frame)
 refine aK F 1 ap bm ?_
 (try simp only[aH,aJ,aG])
 (try go_frame)
 refine aK F 2 ap bm ?_
 (try simp only[aH,aJ,aG])
 (try go_frame)
 refine aK F 3 ap bm ?_
 (try simp only[aH,aJ,aG])
 (try go_frame)
 refine aK F 4 ap bm ?_
 (try simp only[aH,aJ,aG])
 (try go_frame)
 refine aK F 5 ap bm ?_
 (try simp only[aH,aJ,aG])
 (try go_frame)
 refine aK F 6 ap bm ?_
 (try simp only[aH,aJ,aG])
 (try go_frame)
 refine gy (by kernel_rfl) rfl (by kernel_rfl) (fun K4 bw=> ?_)
 go_simp;refine(aa HK1).mono ?_;rintro e w2 ⟨rfl,bg⟩;obtain⟨v2,o2,f2,h2,cJ⟩:=(aa HD1).sub (aa HZ).2 bg;have cV:=ab (cJ.keep (aa HD1).wr (aa bA) (by decide) bX)
 have tB:=ab (cJ.keep (aa HD1).wr (aa qB) (by decide) nk)
 have H2:=ab h2;refine bw _ _ ?_
 (try simp only[aH,aJ,aG])
 (try go_frame)
 clear bw K4 F bm ap bg h2 cJ HK1 HD1 H1;have e1:(ah 32).size=1:=rfl;have dz:Hid (Calls prog 42 #[.pointer (some ⟨z,0,none⟩),.slice (some ⟨w2.heap.size,0,none⟩) 3 3] (w2.alloc (.cells #[.string ⟨#[32]⟩,.string sgx,.string ⟨#[32]⟩] 9)) _):=ab ((aa H2).put (aa HZ).1 (aa HZ).2 (by omega) [ah 32,sgx,ah 32] (by simp) (fun t ht=>by simp only[dO,eg,fN] at ht;rcases ht with rfl | rfl | rfl <;> omega) 3 (by show (bH [ah 32,sgx,ah 32]).length≤3;unfold bH;simp only[gU,iE,be,List.length_nil,eQ];omega))
 obtain⟨y0,y1,y2,y3,y4⟩:=nV (aa tB);go_wp2_with fail;clear y0 y1 y2 y3 y4;refine(aa dz).mono ?_;rintro e w3 ⟨rfl,v3,o3,f3,h3,dl⟩;have dc:=ab (dl.keep (aa H2).wr (aa cV) (by decide) bX)
 have AG:=ab (dl.keep (aa H2).wr (aa tB) (by decide) nk)
 have H3:=ab h3;clear h3 dl dz H2;go_wp2_with fail;obtain⟨x0,x1,x2,x3,x4⟩:=nV (aa dc);obtain⟨y0,y1,y2,y3,y4⟩:=nV (aa AG);obtain⟨k0,k1,k2,k3,k4⟩:=aa HKC1 w3 (aa H3).bel;obtain⟨S0,aN⟩:∃S0:World→Prop,S0=fun W1=>W1.cell? ⟨w.heap.size,4,none⟩=some (.slice T.xa T.len T.cap)∧W1.cell? ⟨w.heap.size+1,1,none⟩=some (.int .i64 lvx)∧W1.cell? ⟨T.b,q1,none⟩=some (.int .i64 (T.kid 1).k)∧W1.cell? ⟨T.b,q1+1,none⟩=some (.string (T.kid 1).t)∧W1.cell? ⟨T.b,q1+2,none⟩=some (.int .i64 (T.kid 1).n)∧W1.cell? ⟨T.b,q1+3,none⟩=some (.string (T.kid 1).nm)∧W1.cell? ⟨T.b,q1+4,none⟩=some (.slice (T.kid 1).xa (T.kid 1).len (T.kid 1).cap):=⟨_,rfl⟩
 have ap:=ab aN;have bm:S0 w3.drew:=by rw[aN];exact⟨x4,y1,k0,k1,k2,k3,k4⟩
 have vr:=(aa H3).below (aV _ _).drew;have cS:=ab (aa HKS1 (lvx+1) w3.drew v3 o3 f3 vr.bel vr.wr (vr.len2 (by omega)))
 have t8:=ab vr;clear aN vr x0 x1 x2 x3 x4 y0 y1 y2 y3 y4 k0 k1 k2 k3 k4;refine gt 8 S0 ?_;intro F;refine aK F 0 ap bm ?_
 (try simp only[aH,aG])
 (try go_frame)
 refine aK F 1 ap bm ?_
 (try simp only[aH,aJ,aG])
 (try go_frame)
 refine aK F 2 ap bm ?_
 (try simp only[aH,aJ,aG])
 (try go_frame)
 refine aK F 3 ap bm ?_
 (try simp only[aH,aJ,aG])
 (try go_frame)
 refine aK F 4 ap bm ?_
 (try simp only[aH,aJ,aG])
 (try go_frame)
 refine aK F 5 ap bm ?_
 (try simp only[aH,aJ,aG])
 (try go_frame)
 refine aK F 6 ap bm ?_
 (try simp only[aH,aJ,aG])
 (try go_frame)
 refine aK F 7 ap bm ?_
 (try simp only[aH,aJ,aG])
 (try go_frame)
 refine gy (by kernel_rfl) rfl (by kernel_rfl) (fun K4 bw=> ?_)
 go_simp;refine(aa cS).mono ?_;rintro e w4 ⟨rfl,bg⟩;obtain⟨v4,o4,f4,h4,cv⟩:=(aa t8).sub (aa HZ).2 bg;have lN:=ab (cv.keep (aa t8).wr (aa dc) (by decide) bX)
 have HBS4:=ab (cv.keep (aa t8).wr (aa AG) (by decide) nk)
 have H4:=ab h4;refine bw _ _ ?_
 (try simp only[aH,aJ,aG])
 (try go_frame)
 clear bw K4 F bm ap bg h4 cv cS t8 H3;have HF:=ab ((aa H4).done (t:=ar T.exI) (c:=40 * T.cnt - 2) (by rw[aa HI];rw[kx,kx,fw,aa HSG];show []++ar ((T.kid 0).atl lvx)++([32]++([lI T.k]++[32]))++ar ((T.kid 1).atl (lvx+1))=_;simp) (by omega))
 go_wp2_with fail;go_end0;exact⟨rfl,aa HF⟩
open Go.RowKit
def csm (T:PT) (i:Nat):Nat:=fy (fun i=>(T.kid i).cnt) i
def Co (B z:Nat) (W w:World) (v:Value) (o:List UInt8) (f:Bool) (T:PT) (i:Nat) (w':World):Prop:=
 ∃v' o' f',Wn B z W w v o f ((T.nm.data.toList++[40])++ar (i6 (T.kidI 0) i)) (17+2 * i+40 * csm T i) w' v' o' f'
theorem Ge (T:PT) {i:Nat} (h:i≤T.len):csm T i+1≤T.cnt:=by
 have:=xQ (fun i=>(T.kid i).cnt) h
 rw[T.cnt_eq];unfold csm;omega
theorem LH {T:PT} (hk:T.k=6) (dm:ca T.nm=true) (h8:T.len≤8) (lM:∀i,i < T.len→sY (T.kid i)) {W w:World} {B z:Nat} {v:Value} {o:List UInt8} {f:Bool} (hE:EnvW W) (hT:T.In W) (hb:Below W.heap.size W w) (hz:W.heap.size≤z) (hW:WrI B z w v o f) (aA:T.badX=0) (bU:max o.length 140000+(40 * T.cnt - 2)≤9000000):
  Calls prog 128 #[.pointer (some ⟨z,0,none⟩),.agg #[.int .i64 6,.string T.t,.int .i64 T.n,.string T.nm,.slice T.xa T.len T.cap]] w fun e w'=>ik B z w v o (ar T.exI) f (40 * T.cnt - 2) e w':=by
 have iT:=T.cnt_pos;have hzl:z < w.heap.size:=(bC.1 hW.blk).1;have bX:w.heap.size≠z:=by omega
 obtain⟨w1,aI⟩:∃w1,w1=w.alloc (.cells #[.int .i64 6,.string T.t,.int .i64 T.n,.string T.nm,.slice T.xa T.len T.cap] 24):=⟨_,rfl⟩;have bp:Below w.heap.size w w1:=by rw[aI];exact ba _
 have am:w1.heap[w.heap.size]? =some (.cells #[.int .i64 6,.string T.t,.int .i64 T.n,.string T.nm,.slice T.xa T.len T.cap] 24 (0,0)):=by rw[aI];exact ax rfl
 have H1:=ab ((Wn.start hb hW).below bp);have bA:=ab am;have bL:Hid (w1.heap.size=w.heap.size+1):=ab (by rw[aI];simp)
 have bG:Hid (w.alloc (.cells #[.int .i64 6,.string T.t,.int .i64 T.n,.string T.nm,.slice T.xa T.len T.cap] 24)=w1):=ab (aI.symm);have HZ:=ab (And.intro hE hz);have HI:Hid (ar T.exI=((T.nm.data.toList++[40])++ar (i6 (T.kidI 0) T.len))++[41]):=ab (by
  rw[T.exI_eq,hk];show ar (wd T.nm::sg 40::(i6 (T.kidI 0) T.len++[sg 41]))=_;rw[dq,dq,fW];show T.nm.data.toList++([40]++(ar (i6 (T.kidI 0) T.len)++[41]))=_;simp)
 have hns:=(mq dm).2.1;have e40:(ah 40).size=1:=rfl;have e41:(ah 41).size=1:=rfl;have cg:Hid (Calls prog 42 #[.pointer (some ⟨z,0,none⟩),.slice (some ⟨w1.heap.size,0,none⟩) 2 2] (w1.alloc (.cells #[.string T.nm,.string ⟨#[40]⟩] 9)) _):=ab ((aa H1).put (aa HZ).1 (aa HZ).2 (by omega) [T.nm,ah 40] (by simp) (fun t ht=>by simp only[dO,eg,fN] at ht;rcases ht with rfl | rfl <;> omega) 17 (by show (bH [T.nm,ah 40]).length≤17;unfold bH;simp only[gU,iE,be,List.length_nil,eQ];omega))
 rw[aa bL] at cg;have HKS:=ab (fun (i:Nat) (hi:i < T.len) (w2:World) (v2:Value) (o2:List UInt8) (f2:Bool) h3 h4 h5=>show Calls prog 43 #[.pointer (some ⟨z,0,none⟩),.agg #[.int .i64 (T.kid i).k,.string (T.kid i).t,.int .i64 (T.kid i).n,.string (T.kid i).nm,.slice (T.kid i).xa (T.kid i).len (T.kid i).cap],.int .i64 0] w2 fun e w'=>ik B z w2 v2 o2 (ar ((T.kid i).atl 0)) f2 (40 * (T.kid i).cnt) e w' from lM i hi W w2 B z v2 o2 f2 0 hE (hT.kids hi) h3 hz h4 ((iK aA).2 i hi) h5)
 have HIX:=ab (fun (i:Nat) (hi:i < T.len) w=>ms hT (k:=i) hi w)
 have HKC:=ab (fun (i:Nat) (hi:i < T.len) (W1:World) (h:Below W.heap.size W W1)=>(PT.In.later h hT).cells (i:=i) hi)
 have mM:Below W.heap.size W w:=hb;have hWl:W.heap.size≤w.heap.size:=hb.size;clear hk aA hT hE hb hW bp am aI lM mM;obtain⟨n,hn⟩:∃n,n=T.len:=⟨_,rfl⟩;have HN:=ab hn;have hn8:n≤8:=by omega
 rw[←hn] at bA bG ⊢;clear hn h8;go_enter func128,ntmps128;go_wp2_with fail;rw[aa bG];refine(aa cg).mono ?_;rintro e w2 ⟨rfl,v2,o2,f2,h2,cJ⟩;have yU:=cJ.keep (aa H1).wr (aa bA) (by decide) bX
 obtain⟨x0,x1,x2,x3,x4⟩:=nV yU;have H0:Hid (Co B z W w v o f T 0 w2):=ab (⟨v2,o2,f2,by
  have e:([]++bH [T.nm,ah 40])=((T.nm.data.toList++[40])++ar (i6 (T.kidI 0) 0)):=by rw[kx,fw];show []++(T.nm.data.toList++[40])=(T.nm.data.toList++[40])++[];simp
  rw[←e];exact h2⟩)
 clear h2 cJ cg H1 bA bG bL yU;go_wp2_with fail;clear x0 x1 x2 x3 x4;go_loopw [14] (fun u wr=>∃i:Nat,i≤n∧u=.int .i64 (i:Int)∧Hid (Co B z W w v o f T i wr)) (fun u _=>n - (intOf u).toNat)
 case atStart=>exact⟨0,cU _,rfl,aa H0⟩
 case round=>
  obtain⟨i,hi,rfl,HC⟩:=hrel;rcases cG i n with au | gD
  ·have hiT:i < T.len:=by have:=aa HN;omega
   obtain⟨v',o',f',jO⟩:=aa HC;have jg:=Ge T (i:=i+1) (by omega)
   have hcs2:csm T (i+1)=csm T i+(T.kid i).cnt:=rfl;have HX:=ab jO;obtain⟨q,hq⟩:∃q,q=T.o+i * 5:=⟨_,rfl⟩;have jA:=aa HIX i hiT;obtain⟨k0,k1,k2,k3,k4⟩:=aa HKC i hiT wr jO.bel;rw[←hq] at jA k0 k1 k2 k3 k4;unfold PT.kv at k4;rw[←aa HN] at jA;have HKI:=ab (aa HKS i hiT);have kR:Hid (∀(w3:World) (v3:Value) (o3:List UInt8) (f3:Bool) (S:List UInt8) (c:Nat),(S=if 0 < i then [44,32] else [])→c≤2→Wn B z W w v o f ((((T.nm.data.toList++[40])++ar (i6 (T.kidI 0) i))++S)++ar ((T.kid i).atl 0)) ((17+2 * i+40 * csm T i)+c+40 * (T.kid i).cnt) w3 v3 o3 f3→Co B z W w v o f T (i+1) w3):=ab (fun w3 v3 o3 f3 S c hS hc h=>⟨v3,o3,f3,by
    have e:(((T.nm.data.toList++[40])++ar (i6 (T.kidI 0) i))++S)++ar ((T.kid i).atl 0)=(T.nm.data.toList++[40])++ar (i6 (T.kidI 0) (i+1)):=by
     rw[i6,qM hiT,fW,fW,hS]
     by_cases q:0 < i
     ·rw[af q,af q]
      show _=_++(ar (i6 (T.kidI 0) i)++([44,32]++ar ((T.kid i).atl 0)));simp
     ·rw[ac q,ac q]
      show _=_++(ar (i6 (T.kidI 0) i)++([]++ar ((T.kid i).atl 0)));simp
    rw[e] at h;exact⟨h.bel,h.wr,h.wx,h.gw.more (by rw[hcs2];omega),h.ff⟩⟩)
   have vJ:=ab (And.intro jg hcs2);clear jO HC H0 jg hcs2 hq;generalize T.kid i=x at *;have vk:Below wr.heap.size wr (wr.alloc (.cells #[.int .i64 x.k,.string x.t,.int .i64 x.n,.string x.nm,.slice x.xa x.len x.cap] 24)):=ba _;have hnb:wr.heap.size≠z:=by have:=(bC.1 (aa HX).wr.blk).1;omega
   obtain⟨wb,hwb⟩:∃wb,wb=wr.alloc (.cells #[.int .i64 x.k,.string x.t,.int .i64 x.n,.string x.nm,.slice x.xa x.len x.cap] 24):=⟨_,rfl⟩;have tM:wb.heap[wr.heap.size]? =some (.cells #[.int .i64 x.k,.string x.t,.int .i64 x.n,.string x.nm,.slice x.xa x.len x.cap] 24 (0,0)):=by rw[hwb];exact ax rfl
   rw[←hwb] at vk;have HB:=ab ((aa HX).below vk);have HBB:=ab tM;have HWB:Hid (wr.alloc (.cells #[.int .i64 x.k,.string x.t,.int .i64 x.n,.string x.nm,.slice x.xa x.len x.cap] 24)=wb):=ab (hwb.symm);have sE:Hid (wb.heap.size=wr.heap.size+1):=ab (by rw[hwb];simp)
   clear vk tM hwb HX
   by_cases h0:i=0
   ·have q0:¬(0:Int) < (i:Int):=by omega
    have gR:=ab (aa HKI wb v' o' f' (aa HB).bel (aa HB).wr ((aa HB).len2 (by have:=aa vJ;omega)))
    have HS:=ab h0;clear h0;go_wp2_with fail;rw[aa HWB];refine(aa gR).mono ?_;rintro e w3 ⟨rfl,bg⟩;obtain⟨v3,o3,f3,h3, -⟩:=(aa HB).sub (aa HZ).2 bg;have HZ3:=ab (aa kR w3 v3 o3 f3 [] 0 (by rw[ac (by have:=aa HS;omega)]) (by omega) (by rw[lf];exact h3))
    clear bg h3 gR HB HBB HWB sE kR;go_wp2_with fail;exact⟨⟨i+1,by omega,rfl,aa HZ3⟩,by simp[intOf];omega⟩
   ·have q0:(0:Int) < (i:Int):=by omega
    have ecs:(⟨#[44,32]⟩:ByteArray).size=2:=rfl;have HP:Hid (Calls prog 42 #[.pointer (some ⟨z,0,none⟩),.slice (some ⟨wb.heap.size,0,none⟩) 1 1] (wb.alloc (.cells #[.string ⟨#[44,32]⟩] 9)) _):=ab ((aa HB).put (aa HZ).1 (aa HZ).2 (by have:=aa vJ;omega) [⟨#[44,32]⟩] (by simp) (fun t ht=>by rw[jv] at ht;subst ht;omega) 2 (by decide))
    rw[aa sE] at HP;have HS:=ab h0;clear h0;go_wp2_with fail;rw[aa HWB];refine(aa HP).mono ?_;rintro e w2 ⟨rfl,v2,o2,f2,h2,cJ⟩;obtain⟨x0,x1,x2,x3,x4⟩:=nV (cJ.keep (aa HB).wr (aa HBB) (by decide) hnb)
    have gR:=ab (aa HKI w2 v2 o2 f2 h2.bel h2.wr (h2.len2 (by have:=aa vJ;omega)))
    have H2:=ab h2;clear h2 cJ HP;go_wp2_with fail;refine(aa gR).mono ?_;rintro e w3 ⟨rfl,bg⟩;obtain⟨v3,o3,f3,h3, -⟩:=(aa H2).sub (aa HZ).2 bg;have HZ3:=ab (aa kR w3 v3 o3 f3 [44,32] 2 (by rw[af (by have:=aa HS;omega)]) (by omega) (by rw[fw] at h3;exact h3))
    clear bg h3 gR HB HBB HWB sE kR H2 x0 x1 x2 x3 x4;go_wp2_with fail;exact⟨⟨i+1,by omega,rfl,aa HZ3⟩,by simp[intOf];omega⟩
  ·obtain rfl:i=n:=by omega
   obtain⟨v',o',f',jO⟩:=aa HC;have jg:=Ge T (i:=i) (by have:=aa HN;omega)
   have HX:=ab jO;have HP:Hid (Calls prog 42 #[.pointer (some ⟨z,0,none⟩),.slice (some ⟨wr.heap.size,0,none⟩) 1 1] (wr.alloc (.cells #[.string ⟨#[41]⟩] 9)) _):=ab ((aa HX).put (aa HZ).1 (aa HZ).2 (by omega) [ah 41] (by simp) (fun t ht=>by rw[jv] at ht;subst ht;omega) 1 (by decide))
   clear jO HC HX;go_wp2_with fail;refine(aa HP).mono ?_;rintro e w3 ⟨rfl,v3,o3,f3,h3, -⟩;have HF:=ab (h3.done (t:=ar T.exI) (c:=40 * T.cnt - 2) (by rw[aa HI,←aa HN,fw];rfl) (by omega))
   clear h3;go_wp2_with fail;go_end0;exact⟨rfl,aa HF⟩
theorem bare_6 {T:PT} (hk:T.k=6) (dm:ca T.nm=true) (h8:T.len≤8) (lM:∀i,i < T.len→sY (T.kid i)):rT T:=by
 intro W w B z v o f hE hT hb hz hW aA bU;obtain⟨s0,s1,s2,s3,s4⟩:=un (hE.shx.later hb) 6 6 rfl (by decide) (by decide)
 have j8:(0:Nat) < w.heap.size:=da _ _ s0;have hgl':¬w.heap.size=0:=by omega
 have qU:¬w.heap.size+1=0:=by omega
 have iT:=T.cnt_pos;have hzl:z < w.heap.size:=(bC.1 hW.blk).1;have bX:w.heap.size≠z:=by omega
 have nk:w.heap.size+1≠z:=by omega
 obtain⟨w1,aI⟩:∃w1,w1=(w.alloc (.cells #[.int .i64 6,.string T.t,.int .i64 T.n,.string T.nm,.slice T.xa T.len T.cap] 24)).alloc (.cells #[.string (cI 6),.int .i64 (bs 6),.bool (ck 6),.int .i64 (bF 6),.int .i64 (bE 6)] 128):=⟨_,rfl⟩;have bp:Below w.heap.size w w1:=by rw[aI];exact(ba _).alloc (by simp) _
 have am:w1.heap[w.heap.size]? =some (.cells #[.int .i64 6,.string T.t,.int .i64 T.n,.string T.nm,.slice T.xa T.len T.cap] 24 (0,0)):=by rw[aI];exact ci (by simp) (ax rfl)
 have gW:w1.heap[w.heap.size+1]? =some (.cells #[.string (cI 6),.int .i64 (bs 6),.bool (ck 6),.int .i64 (bF 6),.int .i64 (bE 6)] 128 (0,0)):=by rw[aI];exact ax (by simp)
 have H1:=ab ((Wn.start hb hW).below bp);have bA:=ab am;have qB:=ab gW;have bL:Hid (w1.heap.size=w.heap.size+1+1):=ab (by rw[aI];simp)
 have bG:Hid ((w.alloc (.cells #[.int .i64 6,.string T.t,.int .i64 T.n,.string T.nm,.slice T.xa T.len T.cap] 24)).alloc (.cells #[.string (cI 6),.int .i64 (bs 6),.bool (ck 6),.int .i64 (bF 6),.int .i64 (bE 6)] 128)=w1):=ab (aI.symm);have HZ:=ab (And.intro hE hz);have HT:=ab hT;unfold pv;rw[hk];have HCL:=ab (LH hk dm h8 lM hE hT (aa H1).bel hz (aa H1).wr aA bU);clear hk aA hT hE hb hW bp am gW aI lM;generalize cI 6=sgx at *;generalize bs 6=lvx at *;generalize ck 6=nmx at *;generalize bF 6=lsx at *;generalize bE 6=msx at *;go_enter func80,ntmps80;go_wp2_with fail;rw[aa bG];refine(aa HCL).mono ?_;rintro e w2 ⟨rfl,bg⟩;obtain⟨v3,o3,f3,h3, -⟩:=(aa H1).sub (aa HZ).2 bg;have HF:=ab (h3.done (t:=ar T.exI) (c:=40 * T.cnt - 2) rfl (by omega))
 clear bg h3;go_wp2_with fail;go_end0;exact⟨rfl,aa HF⟩
theorem Je:∀T:PT,rT T:=PT.ind fun T ih=>by
 by_cases hb:T.badX=0
 ·obtain⟨he,rd⟩:=iK hb
  obtain⟨⟨k1,tF⟩,ht,hN,dm,hl,hm⟩:=oK he;have hK:∀i,i < T.len→sY (T.kid i):=fun i hi=>E4 (ih i hi)
  have hc:T.k=1∨T.k=2∨T.k=3∨T.k=4∨T.k=5∨T.k=6∨T.k=7∨8≤T.k:=by omega
  rcases hc with h | h | h | h | h | h | h | h
  ·exact bare_1 h (ht h)
  ·exact bare_2 h
  ·rw[h] at dm;exact bare_3 h (dm rfl)
  ·rw[h] at hm dm hl
   exact bare_4 h (dm rfl) (by have:bE 4=1:=rfl;have:bF 4=1:=rfl;omega) hK
  ·rw[h] at hm hl
   exact bare_5 h (by have:bE 5=1:=rfl;have:bF 5=1:=rfl;omega) hK
  ·rw[h] at hm dm;exact bare_6 h (dm rfl) (by have:bE 6=8:=rfl;omega) hK
  ·rw[h] at hm hl
   exact bare_7 h (by have:bE 7=1:=rfl;have:bF 7=1:=rfl;omega) hK
  ·have h2:bE T.k=2∧bF T.k=2:=by
    have:T.k=8∨T.k=9∨T.k=10∨T.k=11∨T.k=12∨T.k=13:=by omega
    rcases this with h | h | h | h | h | h <;> rw[h] <;> exact⟨rfl,rfl⟩
   exact LN h tF (by omega) hK
 ·exact fun W w B z v o f _ _ _ _ _ h=>absurd h hb
theorem wW (T:PT):sY T:=E4 (Je T)
open Go.RowKit
def m8 (t:ByteArray):Bool:=t.toList.isEmpty || ca t
def SV.dfE (S:SV):Int:=if ek [dH [S.nm,S.en],dH S.ps.l,dH S.ls.l]=0∧(8 < S.ps.l.length∨8 < S.ls.l.length) then 5 else ek [dH [S.nm,S.en],dH S.ps.l,dH S.ls.l]
def SV.kndE (S:SV):Int:=
 if S.k=1 then 0
 else if S.k=2 then S.va.wrongX
 else if S.k=4 then ek [S.va.wrongX,S.pa.wrong]
 else if S.k=3 then ek [lT S.tg,S.va.wrongX]
 else if S.k=5 then ek [lT S.tg,S.pa.wrong,S.va.wrongX]
 else if S.k=6 then ek [dH [S.nm],S.pa.wrong]
 else if S.k=7 then S.dfE
 else 1
def SV.lbl (S:SV):List ByteArray:=[S.lab,S.al,S.ye,S.no]
def SV.wrong (S:SV):Int:=
 if S.lbl.all m8=true then (if S.al.toList.isEmpty=false∧(S.ye.toList.isEmpty=false∨S.no.toList.isEmpty=false) then 8 else S.kndE) else 7
theorem AZ:(prog.info? 30).map (·.size)=some 24:=by kernel_rfl
theorem K0 {l:List ByteArray} {k:Nat} (h:(l.take k).all m8=true) {t:ByteArray} (ht:l[k]? =some t) (hn:m8 t=true):(l.take (k+1)).all m8=true:=by
 rw[xB,ht];simp only[Option.toList_some,List.all_append,h,List.all_cons,hn,List.all_nil,Bool.and_self]
theorem MG {l:List ByteArray} {k:Nat} {t:ByteArray} (ht:l[k]? =some t) (hn:m8 t=false):l.all m8=false:=by
 rw[←Bool.not_eq_true,uN];intro h;rw[h t (oS ht)] at hn
 cases hn
theorem GC {W:World} {g:Nat} {cs:Array Value} {l:List ByteArray} (hg:W.heap[g]? =some (.cells cs 9 (0,0))) (jg:cs=(l.map fun t=>Value.string t).toArray) (hl:∀t ∈ l,t.size≤maxLen) (hn:l.length≤100):NL.In W ⟨some ⟨g,0,none⟩,g,0,l.length,l⟩:=
 ⟨aw _,by show l.length≤maxLen;unfold maxLen;omega,fun _=>rfl,fun i t ht=>⟨by
  rw[ni,eB _ _ _ _ _ _ hg,jg];have ht:l[i]? =some t:=ht;simp[ht],hl t (oS ht)⟩⟩
theorem yc {w:World} {g:Nat} {t:TypeId} {l:List Int} (h:w.heap[g]? =some (.cells (l.map fun n=>Value.int .i64 n).toArray t (0,0))):∀i x,l[i]? =some x→w.cell? ⟨g,i,none⟩=some (.int .i64 x):=fun i x hx=>by
 rw[eB _ _ _ _ _ _ h];simp[hx]
theorem GP (S:SV) (w:World) (hS:S.In w):
  Calls prog 36 #[S.v] w fun e w'=>e=.returned (.int .i64 S.dfE)∧Below w.heap.size w w':=by
 have HI:=ab hS;clear hS;unfold SV.v SV.cells NL.v;obtain⟨w1,aI⟩:∃w1,w1=w.alloc (.cells #[.string S.lab,.int .i64 S.k,.int .i64 S.tg.k,.string S.tg.t,.int .i64 S.tg.n,.string S.tg.nm,.slice S.tg.xa S.tg.len S.tg.cap,.int .i64 S.va.k,.string S.va.t,.int .i64 S.va.n,.string S.va.nm,.slice S.va.xa S.va.len S.va.cap,.int .i64 S.pa.k,.string S.pa.t,.int .i64 S.pa.n,.string S.pa.nm,.slice S.pa.xa S.pa.len S.pa.cap,.string S.nm,.string S.en,.slice S.ps.xa S.ps.l.length S.ps.cap,.slice S.ls.xa S.ls.l.length S.ls.cap,.string S.al,.string S.ye,.string S.no] 30):=⟨_,rfl⟩;have hb1:Below w.heap.size w w1:=by rw[aI];exact ba _
 have ve:w1.heap[w.heap.size]? =some (.cells #[.string S.lab,.int .i64 S.k,.int .i64 S.tg.k,.string S.tg.t,.int .i64 S.tg.n,.string S.tg.nm,.slice S.tg.xa S.tg.len S.tg.cap,.int .i64 S.va.k,.string S.va.t,.int .i64 S.va.n,.string S.va.nm,.slice S.va.xa S.va.len S.va.cap,.int .i64 S.pa.k,.string S.pa.t,.int .i64 S.pa.n,.string S.pa.nm,.slice S.pa.xa S.pa.len S.pa.cap,.string S.nm,.string S.en,.slice S.ps.xa S.ps.l.length S.ps.cap,.slice S.ls.xa S.ls.l.length S.ls.cap,.string S.al,.string S.ye,.string S.no] 30 (0,0)):=by rw[aI];exact ax rfl
 have tr:w1.heap.size=w.heap.size+1:=by rw[aI,dS]
 have aX:=ab hb1;have HWN:Hid (Calls prog 35 #[.slice (some ⟨w1.heap.size,0,none⟩) 2 2] (w1.alloc (.cells #[.string S.nm,.string S.en] 9)).drew fun e w'=>e=.returned (.int .i64 (dH [S.nm,S.en]))∧Below w1.heap.size w1 w'):=ab ((y5 ⟨some ⟨w1.heap.size,0,none⟩,w1.heap.size,0,2,[S.nm,S.en]⟩ _ (GC (l:=[S.nm,S.en]) (show (w1.alloc (.cells #[.string S.nm,.string S.en] 9)).drew.heap[w1.heap.size]? =some (.cells #[.string S.nm,.string S.en] 9 (0,0)) from ax rfl) rfl (fun t ht=>by
   simp only[dO,eg,fN] at ht;rcases ht with rfl | rfl
   ·exact(aa HI).txt.2.1
   ·exact(aa HI).txt.2.2.1) (by simp))).mono fun e w' q=>⟨q.1,q.2▸(ba _).drew⟩)
 have rx:=ab (fun W (h:Below w1.heap.size w1 W)=>(show Calls prog 35 #[.slice S.ps.xa S.ps.l.length S.ps.cap] W fun e w'=>e=.returned (.int .i64 (dH S.ps.l))∧w'=W from y5 S.ps W (((aa HI).ps.later (aa aX)).later h)))
 have HLS:=ab (fun W (h:Below w1.heap.size w1 W)=>(show Calls prog 35 #[.slice S.ls.xa S.ls.l.length S.ls.cap] W fun e w'=>e=.returned (.int .i64 (dH S.ls.l))∧w'=W from y5 S.ls W (((aa HI).ls.later (aa aX)).later h)))
 have c17:w1.cell? ⟨w.heap.size,17,none⟩=some (.string S.nm):=cr ve;have c18:w1.cell? ⟨w.heap.size,18,none⟩=some (.string S.en):=cr ve;have c19:w1.cell? ⟨w.heap.size,19,none⟩=some (.slice S.ps.xa S.ps.l.length S.ps.cap):=cr ve;have c20:w1.cell? ⟨w.heap.size,20,none⟩=some (.slice S.ls.xa S.ls.l.length S.ls.cap):=cr ve;have kO:=ab tr;have bG:=ab aI;have hpm:=(aa HI).ps.max;have hpc:=(aa HI).ps.cap;have hlm:=(aa HI).ls.max;have vh:=(aa HI).ls.cap;unfold maxLen at hpm hlm;have pG:Hid (S.dfE=if ek [dH [S.nm,S.en],dH S.ps.l,dH S.ls.l]=0∧(8 < S.ps.l.length∨8 < S.ls.l.length) then 5 else ek [dH [S.nm,S.en],dH S.ps.l,dH S.ls.l]):=ab (rfl);have vC:Hid (w.alloc (.cells #[.string S.lab,.int .i64 S.k,.int .i64 S.tg.k,.string S.tg.t,.int .i64 S.tg.n,.string S.tg.nm,.slice S.tg.xa S.tg.len S.tg.cap,.int .i64 S.va.k,.string S.va.t,.int .i64 S.va.n,.string S.va.nm,.slice S.va.xa S.va.len S.va.cap,.int .i64 S.pa.k,.string S.pa.t,.int .i64 S.pa.n,.string S.pa.nm,.slice S.pa.xa S.pa.len S.pa.cap,.string S.nm,.string S.en,.slice S.ps.xa S.ps.l.length S.ps.cap,.slice S.ls.xa S.ls.l.length S.ls.cap,.string S.al,.string S.ye,.string S.no] 30)=w1):=ab (aI.symm);generalize S.ps.l.length=np at *;generalize S.ls.l.length=nl at *;clear aI hb1 ve tr;generalize dH [S.nm,S.en]=n1 at *;generalize dH S.ps.l=n2 at *;generalize dH S.ls.l=n3 at *;have nO:Hid (∀w':World,Below w1.heap.size w1 w'→(w'.cell? ⟨w.heap.size,17,none⟩=some (.string S.nm)∧w'.cell? ⟨w.heap.size,18,none⟩=some (.string S.en)∧w'.cell? ⟨w.heap.size,19,none⟩=some (.slice S.ps.xa np S.ps.cap)∧w'.cell? ⟨w.heap.size,20,none⟩=some (.slice S.ls.xa nl S.ls.cap))):=ab (fun w' h=>⟨av h c17,av h c18,av h c19,av h c20⟩)
 have hA:Below w1.heap.size w1 w1.drew:=(aV _ _).drew;go_enter func36,ntmps36;go_wp2_with fail;rw[show w.alloc (.cells #[.string S.lab,.int .i64 S.k,.int .i64 S.tg.k,.string S.tg.t,.int .i64 S.tg.n,.string S.tg.nm,.slice S.tg.xa S.tg.len S.tg.cap,.int .i64 S.va.k,.string S.va.t,.int .i64 S.va.n,.string S.va.nm,.slice S.va.xa S.va.len S.va.cap,.int .i64 S.pa.k,.string S.pa.t,.int .i64 S.pa.n,.string S.pa.nm,.slice S.pa.xa S.pa.len S.pa.cap,.string S.nm,.string S.en,.slice S.ps.xa np S.ps.cap,.slice S.ls.xa nl S.ls.cap,.string S.al,.string S.ye,.string S.no] 30)=w1 from aa vC];go_region_held3 (fun w'=>w'.cell? ⟨w.heap.size,17,none⟩=some (.string S.nm)∧w'.cell? ⟨w.heap.size,18,none⟩=some (.string S.en)∧w'.cell? ⟨w.heap.size,19,none⟩=some (.slice S.ps.xa np S.ps.cap)∧w'.cell? ⟨w.heap.size,20,none⟩=some (.slice S.ls.xa nl S.ls.cap))
  (first | exact aa nO _ hA | exact aa nO _ (hA.alloc (by have:=hA.size;omega) _))
  (first
   | (go_at_call 35;(with_reducible refine(aa HWN).mono ?_);rintro e w7 ⟨rfl,hb7⟩;have hA:=hb7;clear hb7)
   | (go_at_call 35;(with_reducible refine(aa rx _ hA).mono ?_);rintro e w7 ⟨rfl,rfl⟩)
   | (go_at_call 35;(with_reducible refine(aa HLS _ hA).mono ?_);rintro e w7 ⟨rfl,rfl⟩)
   | (go_at_call 32;refine(xP [n1,n2,n3] _ _ (by simp) (yc (ax rfl))).mono ?_;rintro e w7 ⟨rfl,rfl⟩;have hA:=hA.alloc (by have:=hA.size;omega) (.cells #[.int .i64 n1,.int .i64 n2,.int .i64 n3] 32)))
 obtain⟨-, -,d19,d20⟩:=aa nO _ hA;have vK:=ab (aq (aa aX) hA);clear c17 c18 c19 c20 hA;generalize ek [n1,n2,n3]=er at *
 by_cases h0:er=0
 ·have q:(er==0)=true:=bt h0
  by_cases h1:8 < np
  ·have HE:Hid (S.dfE=5):=ab (by rw[aa pG,af ⟨h0,.inl h1⟩])
   have g1:(8:Int) < (np:Int):=by omega
   clear h0 h1 pG;go_wp2_with fail;go_ret;exact⟨by rw[aa HE];rfl,aa vK⟩
  ·by_cases h2:8 < nl
   ·have HE:Hid (S.dfE=5):=ab (by rw[aa pG,af ⟨h0,.inr h2⟩])
    have g1:¬(8:Int) < (np:Int):=by omega
    have g2:(8:Int) < (nl:Int):=by omega
    clear h0 h1 h2 pG;go_wp2_with fail;go_ret;exact⟨by rw[aa HE];rfl,aa vK⟩
   ·have HE:Hid (S.dfE=er):=ab (by rw[aa pG,ac (fun h=>by rcases h.2 with h | h;exact h1 h;exact h2 h)])
    have g1:¬(8:Int) < (np:Int):=by omega
    have g2:¬(8:Int) < (nl:Int):=by omega
    clear h0 h1 h2 pG;go_wp2_with fail;go_ret;exact⟨by rw[aa HE];rfl,aa vK⟩
 ·have q:(er==0)=false:=bn h0
  have HE:Hid (S.dfE=er):=ab (by rw[aa pG,ac (fun h=>h0 h.1)])
  clear h0 pG;go_wp2_with fail;go_ret;exact⟨by rw[aa HE];rfl,aa vK⟩
theorem Kt (S:SV) (w:World) (hS:S.In w) (hX:gJ w) (hP:dA w):
  Calls prog 11 #[S.v] w fun e w'=>e=.returned (.int .i64 S.wrong)∧Below w.heap.size w w':=by
 have HI:=ab hS;have lm:=hS.txt;have oB:=ab (And.intro hX hP);clear hS hX hP;have eU:Hid (S.k=1∨S.k=2∨S.k=4∨S.k=3∨S.k=5∨S.k=6∨S.k=7∨(S.k < 1∨7 < S.k)):=ab (by omega)
 unfold SV.v SV.cells NL.v;go_enter func11,ntmps11;go_wp2_with fail;obtain⟨w1,aI⟩:∃w1,w1=(w.alloc (.cells #[.string S.lab,.int .i64 S.k,.int .i64 S.tg.k,.string S.tg.t,.int .i64 S.tg.n,.string S.tg.nm,.slice S.tg.xa S.tg.len S.tg.cap,.int .i64 S.va.k,.string S.va.t,.int .i64 S.va.n,.string S.va.nm,.slice S.va.xa S.va.len S.va.cap,.int .i64 S.pa.k,.string S.pa.t,.int .i64 S.pa.n,.string S.pa.nm,.slice S.pa.xa S.pa.len S.pa.cap,.string S.nm,.string S.en,.slice S.ps.xa S.ps.l.length S.ps.cap,.slice S.ls.xa S.ls.l.length S.ls.cap,.string S.al,.string S.ye,.string S.no] 30)).alloc (.cells #[.string S.lab,.string S.al,.string S.ye,.string S.no] 9):=⟨_,rfl⟩;rw[←aI];have hb1:Below w.heap.size w w1:=by rw[aI];exact(ba _).alloc (by rw[dS];omega) _
 have tr:w1.heap.size=w.heap.size+1+1:=by rw[aI,dS,dS]
 have ve:w1.heap[w.heap.size]? =some (.cells #[.string S.lab,.int .i64 S.k,.int .i64 S.tg.k,.string S.tg.t,.int .i64 S.tg.n,.string S.tg.nm,.slice S.tg.xa S.tg.len S.tg.cap,.int .i64 S.va.k,.string S.va.t,.int .i64 S.va.n,.string S.va.nm,.slice S.va.xa S.va.len S.va.cap,.int .i64 S.pa.k,.string S.pa.t,.int .i64 S.pa.n,.string S.pa.nm,.slice S.pa.xa S.pa.len S.pa.cap,.string S.nm,.string S.en,.slice S.ps.xa S.ps.l.length S.ps.cap,.slice S.ls.xa S.ls.l.length S.ls.cap,.string S.al,.string S.ye,.string S.no] 30 (0,0)):=by rw[aI];exact ci (by rw[dS];omega) (ax rfl)
 have kL:w1.heap[w.heap.size+1]? =some (.cells #[.string S.lab,.string S.al,.string S.ye,.string S.no] 9 (0,0)):=by rw[aI];exact ax (by rw[dS])
 have aX:=ab hb1;have dU:=ab ve;have HC:Hid (∀i t,S.lbl[i]? =some t→w1.cell? ⟨w.heap.size+1,i,none⟩=some (.string t)∧t.size≤maxLen):=ab (fun i t ht=>by
  rw[eB _ _ _ _ _ _ kL]
  match i,ht with
  | 0,ht=>
        obtain rfl:S.lab=t:=by simpa [SV.lbl] using ht
        exact⟨rfl,lm.1⟩
  | 1,ht=>
        obtain rfl:S.al=t:=by simpa [SV.lbl] using ht
        exact⟨rfl,lm.2.2.2.1⟩
  | 2,ht=>
        obtain rfl:S.ye=t:=by simpa [SV.lbl] using ht
        exact⟨rfl,lm.2.2.2.2.1⟩
  | 3,ht=>
        obtain rfl:S.no=t:=by simpa [SV.lbl] using ht
        exact⟨rfl,lm.2.2.2.2.2⟩
  | i+4,ht=>simp[SV.lbl] at ht)
 have HW:Hid (S.wrong=if S.lbl.all m8=true then (if S.al.toList.isEmpty=false∧(S.ye.toList.isEmpty=false∨S.no.toList.isEmpty=false) then 8 else S.kndE) else 7):=ab (rfl);have HLL:Hid (S.lbl.length=4):=ab (rfl);have HSZ1:=ab tr;clear aI hb1 ve kL lm tr;generalize S.lbl=LL at *;go_loop [15] (fun i=>∃k:Nat,k≤4∧i=.int .i64 (k:Int)∧Hid ((LL.take k).all m8=true)) (fun i=>4 - (intOf i).toNat)
 case atStart=>exact⟨0,by omega,rfl,rfl⟩
 case round=>
  obtain⟨k,hk,rfl,HT⟩:=hrel;rcases cG k 4 with au | gD
  ·obtain⟨t,ht⟩:∃t,LL[k]? =some t:=⟨LL[k]'(by have:=aa HLL;omega),gT _⟩
   obtain⟨ct,oX⟩:=aa HC k t ht;have ml:=ab (qF t w1 oX);have bL:=ab (fun h=>K0 (aa HT) ht h)
   have ap:=ab (fun h=>MG ht h)
   clear ht oX;have hg:(k:Int) < 4:=by omega
   have jA:=wh (g:=w.heap.size+1) (o:=0) (cap:=4) (i:=k) (n:=4) underlying28 wO au;rw[ni] at jA
   cases hemp:t.toList.isEmpty
   ·cases hq:ca t
    ·have HE:Hid (S.wrong=7):=ab (by rw[aa HW,aa ap (by unfold m8;rw[hemp,hq];rfl),ac (by decide)])
     rw[hq] at ml;clear hq bL ap;go_wp2_with fail;refine(aa ml).mono ?_;rintro e w1 ⟨rfl,rfl⟩;go_wp2_with fail;go_ret;exact⟨by rw[aa HE];rfl,aa aX⟩
    ·have HA:=ab (aa bL (by unfold m8;rw[hq,Bool.or_true]))
     rw[hq] at ml;clear hq bL ap;go_wp2_with fail;refine(aa ml).mono ?_;rintro e w1 ⟨rfl,rfl⟩;go_wp2_with fail;exact⟨⟨k+1,by omega,rfl,aa HA⟩,by simp[intOf];omega⟩
   ·have HA:=ab (aa bL (by unfold m8;rw[hemp,Bool.true_or]))
    clear bL ap;go_wp2_with fail;exact⟨⟨k+1,by omega,rfl,aa HA⟩,by simp[intOf];omega⟩
  ·obtain rfl:k=4:=by omega
   have fb:Hid (S.wrong=if S.al.toList.isEmpty=false∧(S.ye.toList.isEmpty=false∨S.no.toList.isEmpty=false) then 8 else S.kndE):=ab (by
    have h:=aa HT;rw[←aa HLL,yH] at h;rw[aa HW,af h])
   clear HW HT HC HLL hk gD;have c0:w1.cell? ⟨w.heap.size,0,none⟩=some (.string S.lab):=cr (aa dU);have c1:w1.cell? ⟨w.heap.size,1,none⟩=some (.int .i64 S.k):=cr (aa dU);have c2:w1.cell? ⟨w.heap.size,2,none⟩=some (.int .i64 S.tg.k):=cr (aa dU);have c3:w1.cell? ⟨w.heap.size,3,none⟩=some (.string S.tg.t):=cr (aa dU);have c4:w1.cell? ⟨w.heap.size,4,none⟩=some (.int .i64 S.tg.n):=cr (aa dU);have c5:w1.cell? ⟨w.heap.size,5,none⟩=some (.string S.tg.nm):=cr (aa dU);have c6:w1.cell? ⟨w.heap.size,6,none⟩=some (.slice S.tg.xa S.tg.len S.tg.cap):=cr (aa dU);have c7:w1.cell? ⟨w.heap.size,7,none⟩=some (.int .i64 S.va.k):=cr (aa dU);have c8:w1.cell? ⟨w.heap.size,8,none⟩=some (.string S.va.t):=cr (aa dU);have c9:w1.cell? ⟨w.heap.size,9,none⟩=some (.int .i64 S.va.n):=cr (aa dU);have sA:w1.cell? ⟨w.heap.size,10,none⟩=some (.string S.va.nm):=cr (aa dU);have sy:w1.cell? ⟨w.heap.size,11,none⟩=some (.slice S.va.xa S.va.len S.va.cap):=cr (aa dU);have vz:w1.cell? ⟨w.heap.size,12,none⟩=some (.int .i64 S.pa.k):=cr (aa dU);have vy:w1.cell? ⟨w.heap.size,13,none⟩=some (.string S.pa.t):=cr (aa dU);have vx:w1.cell? ⟨w.heap.size,14,none⟩=some (.int .i64 S.pa.n):=cr (aa dU);have vw:w1.cell? ⟨w.heap.size,15,none⟩=some (.string S.pa.nm):=cr (aa dU);have vv:w1.cell? ⟨w.heap.size,16,none⟩=some (.slice S.pa.xa S.pa.len S.pa.cap):=cr (aa dU);have c17:w1.cell? ⟨w.heap.size,17,none⟩=some (.string S.nm):=cr (aa dU);have c18:w1.cell? ⟨w.heap.size,18,none⟩=some (.string S.en):=cr (aa dU);have c19:w1.cell? ⟨w.heap.size,19,none⟩=some (.slice S.ps.xa S.ps.l.length S.ps.cap):=cr (aa dU);have c20:w1.cell? ⟨w.heap.size,20,none⟩=some (.slice S.ls.xa S.ls.l.length S.ls.cap):=cr (aa dU);have vu:w1.cell? ⟨w.heap.size,21,none⟩=some (.string S.al):=cr (aa dU);have nI:w1.cell? ⟨w.heap.size,22,none⟩=some (.string S.ye):=cr (aa dU);have c23:w1.cell? ⟨w.heap.size,23,none⟩=some (.string S.no):=cr (aa dU);obtain⟨bb,tM⟩:∃bb:Bool,bb=(!S.al.toList.isEmpty && (!S.ye.toList.isEmpty || !S.no.toList.isEmpty)):=⟨_,rfl⟩;have HE0:Hid (S.wrong=if bb=true then 8 else S.kndE):=ab (by rw[aa fb,tM];cases S.al.toList.isEmpty <;> cases S.ye.toList.isEmpty <;> cases S.no.toList.isEmpty <;> simp)
   have HBB:=ab tM;clear tM fb;go_upto_region 7 with fail
   go_cut [39] from 27 (fun s39 wx=>s39=.bool bb∧w1=wx)
   case first=>
    have tM:=aa HBB;clear HBB HE0 eU
    cases ha:S.al.toList.isEmpty <;> cases hy:S.ye.toList.isEmpty <;> cases hn:S.no.toList.isEmpty <;> (rw[ha,hy,hn] at tM;go_wp2_with fail;go_meet;case rel=>exact⟨by rw[tM];rfl,rfl⟩)
   case rest=>
    obtain⟨rfl,rfl⟩:=hcut;clear HBB
    cases bb
    ·have HE:Hid (S.wrong=S.kndE):=ab (by rw[aa HE0,ac (by decide)])
     clear HE0;rcases aa eU with HK | HK | HK | HK | HK | HK | HK | HK
     ·replace HK:=ab HK
      clear eU
      as_aux_lemma=>
       have hk:=aa HK;have HE:Hid (S.wrong=0):=ab (by rw[aa HE,SV.kndE,af hk])
       have e1:(S.k==1)=true:=bt hk;clear hk;go_wp2_with fail;go_ret;exact⟨by rw[aa HE];rfl,aa aX⟩
     ·replace HK:=ab HK
      clear eU
      as_aux_lemma=>
       have hk:=aa HK;have HX:=ab (fun W (h:Below w1.heap.size w1 W)=>xU S.va W (PT.In.later h (PT.In.later (aa aX) (aa HI).va)) (((aa oB).1.later (aa aX)).later h))
       unfold pv at HX;have HE:Hid (S.wrong=S.va.wrongX):=ab (by rw[aa HE,SV.kndE,ac (by omega),af hk])
       have e1:(S.k==1)=false:=bn;have e2:(S.k==2)=true:=bt hk;clear hk;generalize S.va.wrongX=ex at *;have hA:Below w1.heap.size w1 w1:=aV _ _;go_wp2_with fail;refine(aa HX w1 hA).mono ?_;rintro e w7 ⟨rfl,hb7⟩;have hA:=aq hA hb7;clear hb7;go_wp2_with fail;go_ret;exact⟨by rw[aa HE];rfl,aq (aa aX) hA⟩
     ·replace HK:=ab HK
      clear eU
      as_aux_lemma=>
       have hk:=aa HK;have HX:=ab (fun W (h:Below w1.heap.size w1 W)=>xU S.va W (PT.In.later h (PT.In.later (aa aX) (aa HI).va)) (((aa oB).1.later (aa aX)).later h))
       have px:=ab (fun W (h:Below w1.heap.size w1 W)=>zl S.pa W (PT.In.later h (PT.In.later (aa aX) (aa HI).pa)) (((aa oB).2.later (aa aX)).later h))
       unfold pv at HX px;have HE:Hid (S.wrong=ek [S.va.wrongX,S.pa.wrong]):=ab (by rw[aa HE,SV.kndE,ac (by omega),ac (by omega),af hk])
       have e1:(S.k==1)=false:=bn;have e2:(S.k==2)=false:=bn;have e4:(S.k==4)=true:=bt hk;clear hk;generalize S.va.wrongX=ex at *;generalize S.pa.wrong=pw at *;have nO:Hid (∀w':World,Below w1.heap.size w1 w'→(w'.cell? ⟨w.heap.size,7,none⟩=some (.int .i64 S.va.k)∧w'.cell? ⟨w.heap.size,8,none⟩=some (.string S.va.t)∧w'.cell? ⟨w.heap.size,9,none⟩=some (.int .i64 S.va.n)∧w'.cell? ⟨w.heap.size,10,none⟩=some (.string S.va.nm)∧w'.cell? ⟨w.heap.size,11,none⟩=some (.slice S.va.xa S.va.len S.va.cap)∧w'.cell? ⟨w.heap.size,12,none⟩=some (.int .i64 S.pa.k)∧w'.cell? ⟨w.heap.size,13,none⟩=some (.string S.pa.t)∧w'.cell? ⟨w.heap.size,14,none⟩=some (.int .i64 S.pa.n)∧w'.cell? ⟨w.heap.size,15,none⟩=some (.string S.pa.nm)∧w'.cell? ⟨w.heap.size,16,none⟩=some (.slice S.pa.xa S.pa.len S.pa.cap))):=ab (fun w' h=>⟨av h c7,av h c8,av h c9,av h sA,av h sy,av h vz,av h vy,av h vx,av h vw,av h vv⟩)
       have hA:Below w1.heap.size w1 w1.drew:=(aV _ _).drew;go_wp2_with fail;go_region_held3 (fun w'=>w'.cell? ⟨w.heap.size,7,none⟩=some (.int .i64 S.va.k)∧w'.cell? ⟨w.heap.size,8,none⟩=some (.string S.va.t)∧w'.cell? ⟨w.heap.size,9,none⟩=some (.int .i64 S.va.n)∧w'.cell? ⟨w.heap.size,10,none⟩=some (.string S.va.nm)∧w'.cell? ⟨w.heap.size,11,none⟩=some (.slice S.va.xa S.va.len S.va.cap)∧w'.cell? ⟨w.heap.size,12,none⟩=some (.int .i64 S.pa.k)∧w'.cell? ⟨w.heap.size,13,none⟩=some (.string S.pa.t)∧w'.cell? ⟨w.heap.size,14,none⟩=some (.int .i64 S.pa.n)∧w'.cell? ⟨w.heap.size,15,none⟩=some (.string S.pa.nm)∧w'.cell? ⟨w.heap.size,16,none⟩=some (.slice S.pa.xa S.pa.len S.pa.cap))
        (first | exact aa nO _ hA | exact aa nO _ (hA.alloc (by have:=hA.size;omega) _))
        (first
         | (go_at_call 31;(with_reducible refine(aa HX _ hA).mono ?_);rintro e w7 ⟨rfl,hb7⟩;have hA:=aq hA hb7;clear hb7)
         | (go_at_call 33;(with_reducible refine(aa px _ hA).mono ?_);rintro e w7 ⟨rfl,hb7⟩;have hA:=aq hA hb7;clear hb7)
         | (go_at_call 32;refine(xP [ex,pw] _ _ (by simp) (yc (ax rfl))).mono ?_;rintro e w7 ⟨rfl,rfl⟩;have hA:=hA.alloc (by have:=hA.size;omega) (.cells #[.int .i64 ex,.int .i64 pw] 32)))
       go_wp2_with fail;go_ret;exact⟨by rw[aa HE];rfl,aq (aa aX) hA⟩
     ·replace HK:=ab HK
      clear eU
      as_aux_lemma=>
       have hk:=aa HK;have HX:=ab (fun W (h:Below w1.heap.size w1 W)=>xU S.va W (PT.In.later h (PT.In.later (aa aX) (aa HI).va)) (((aa oB).1.later (aa aX)).later h))
       have HTG:=ab (fun W (h:Below w1.heap.size w1 W)=>Cy S.tg W (PT.In.later h (PT.In.later (aa aX) (aa HI).tg)) (((aa oB).1.later (aa aX)).later h))
       unfold pv at HX HTG;have HE:Hid (S.wrong=ek [lT S.tg,S.va.wrongX]):=ab (by rw[aa HE,SV.kndE,ac (by omega),ac (by omega),ac (by omega),af hk])
       have e1:(S.k==1)=false:=bn;have e2:(S.k==2)=false:=bn;have e4:(S.k==4)=false:=bn;have e3:(S.k==3)=true:=bt hk;clear hk;generalize S.va.wrongX=ex at *;generalize lT S.tg=tw at *;have nO:Hid (∀w':World,Below w1.heap.size w1 w'→(w'.cell? ⟨w.heap.size,2,none⟩=some (.int .i64 S.tg.k)∧w'.cell? ⟨w.heap.size,3,none⟩=some (.string S.tg.t)∧w'.cell? ⟨w.heap.size,4,none⟩=some (.int .i64 S.tg.n)∧w'.cell? ⟨w.heap.size,5,none⟩=some (.string S.tg.nm)∧w'.cell? ⟨w.heap.size,6,none⟩=some (.slice S.tg.xa S.tg.len S.tg.cap)∧w'.cell? ⟨w.heap.size,7,none⟩=some (.int .i64 S.va.k)∧w'.cell? ⟨w.heap.size,8,none⟩=some (.string S.va.t)∧w'.cell? ⟨w.heap.size,9,none⟩=some (.int .i64 S.va.n)∧w'.cell? ⟨w.heap.size,10,none⟩=some (.string S.va.nm)∧w'.cell? ⟨w.heap.size,11,none⟩=some (.slice S.va.xa S.va.len S.va.cap))):=ab (fun w' h=>⟨av h c2,av h c3,av h c4,av h c5,av h c6,av h c7,av h c8,av h c9,av h sA,av h sy⟩)
       have hA:Below w1.heap.size w1 w1.drew:=(aV _ _).drew;go_wp2_with fail;go_region_held3 (fun w'=>w'.cell? ⟨w.heap.size,2,none⟩=some (.int .i64 S.tg.k)∧w'.cell? ⟨w.heap.size,3,none⟩=some (.string S.tg.t)∧w'.cell? ⟨w.heap.size,4,none⟩=some (.int .i64 S.tg.n)∧w'.cell? ⟨w.heap.size,5,none⟩=some (.string S.tg.nm)∧w'.cell? ⟨w.heap.size,6,none⟩=some (.slice S.tg.xa S.tg.len S.tg.cap)∧w'.cell? ⟨w.heap.size,7,none⟩=some (.int .i64 S.va.k)∧w'.cell? ⟨w.heap.size,8,none⟩=some (.string S.va.t)∧w'.cell? ⟨w.heap.size,9,none⟩=some (.int .i64 S.va.n)∧w'.cell? ⟨w.heap.size,10,none⟩=some (.string S.va.nm)∧w'.cell? ⟨w.heap.size,11,none⟩=some (.slice S.va.xa S.va.len S.va.cap))
        (first | exact aa nO _ hA | exact aa nO _ (hA.alloc (by have:=hA.size;omega) _))
        (first
         | (go_at_call 31;(with_reducible refine(aa HX _ hA).mono ?_);rintro e w7 ⟨rfl,hb7⟩;have hA:=aq hA hb7;clear hb7)
         | (go_at_call 34;(with_reducible refine(aa HTG _ hA).mono ?_);rintro e w7 ⟨rfl,hb7⟩;have hA:=aq hA hb7;clear hb7)
         | (go_at_call 32;refine(xP [tw,ex] _ _ (by simp) (yc (ax rfl))).mono ?_;rintro e w7 ⟨rfl,rfl⟩;have hA:=hA.alloc (by have:=hA.size;omega) (.cells #[.int .i64 tw,.int .i64 ex] 32)))
       go_wp2_with fail;go_ret;exact⟨by rw[aa HE];rfl,aq (aa aX) hA⟩
     ·replace HK:=ab HK
      clear eU
      as_aux_lemma=>
       have hk:=aa HK;have HX:=ab (fun W (h:Below w1.heap.size w1 W)=>xU S.va W (PT.In.later h (PT.In.later (aa aX) (aa HI).va)) (((aa oB).1.later (aa aX)).later h))
       have HTG:=ab (fun W (h:Below w1.heap.size w1 W)=>Cy S.tg W (PT.In.later h (PT.In.later (aa aX) (aa HI).tg)) (((aa oB).1.later (aa aX)).later h))
       have px:=ab (fun W (h:Below w1.heap.size w1 W)=>zl S.pa W (PT.In.later h (PT.In.later (aa aX) (aa HI).pa)) (((aa oB).2.later (aa aX)).later h))
       unfold pv at HX HTG px;have HE:Hid (S.wrong=ek [lT S.tg,S.pa.wrong,S.va.wrongX]):=ab (by rw[aa HE,SV.kndE,ac (by omega),ac (by omega),ac (by omega),ac (by omega),af hk])
       have e1:(S.k==1)=false:=bn;have e2:(S.k==2)=false:=bn;have e4:(S.k==4)=false:=bn;have e3:(S.k==3)=false:=bn;have e5:(S.k==5)=true:=bt hk;clear hk;generalize S.va.wrongX=ex at *;generalize S.pa.wrong=pw at *;generalize lT S.tg=tw at *;have nO:Hid (∀w':World,Below w1.heap.size w1 w'→(w'.cell? ⟨w.heap.size,2,none⟩=some (.int .i64 S.tg.k)∧w'.cell? ⟨w.heap.size,3,none⟩=some (.string S.tg.t)∧w'.cell? ⟨w.heap.size,4,none⟩=some (.int .i64 S.tg.n)∧w'.cell? ⟨w.heap.size,5,none⟩=some (.string S.tg.nm)∧w'.cell? ⟨w.heap.size,6,none⟩=some (.slice S.tg.xa S.tg.len S.tg.cap)∧w'.cell? ⟨w.heap.size,7,none⟩=some (.int .i64 S.va.k)∧w'.cell? ⟨w.heap.size,8,none⟩=some (.string S.va.t)∧w'.cell? ⟨w.heap.size,9,none⟩=some (.int .i64 S.va.n)∧w'.cell? ⟨w.heap.size,10,none⟩=some (.string S.va.nm)∧w'.cell? ⟨w.heap.size,11,none⟩=some (.slice S.va.xa S.va.len S.va.cap)∧w'.cell? ⟨w.heap.size,12,none⟩=some (.int .i64 S.pa.k)∧w'.cell? ⟨w.heap.size,13,none⟩=some (.string S.pa.t)∧w'.cell? ⟨w.heap.size,14,none⟩=some (.int .i64 S.pa.n)∧w'.cell? ⟨w.heap.size,15,none⟩=some (.string S.pa.nm)∧w'.cell? ⟨w.heap.size,16,none⟩=some (.slice S.pa.xa S.pa.len S.pa.cap))):=ab (fun w' h=>⟨av h c2,av h c3,av h c4,av h c5,av h c6,av h c7,av h c8,av h c9,av h sA,av h sy,av h vz,av h vy,av h vx,av h vw,av h vv⟩)
       have hA:Below w1.heap.size w1 w1.drew:=(aV _ _).drew;go_wp2_with fail;go_region_held3 (fun w'=>w'.cell? ⟨w.heap.size,2,none⟩=some (.int .i64 S.tg.k)∧w'.cell? ⟨w.heap.size,3,none⟩=some (.string S.tg.t)∧w'.cell? ⟨w.heap.size,4,none⟩=some (.int .i64 S.tg.n)∧w'.cell? ⟨w.heap.size,5,none⟩=some (.string S.tg.nm)∧w'.cell? ⟨w.heap.size,6,none⟩=some (.slice S.tg.xa S.tg.len S.tg.cap)∧w'.cell? ⟨w.heap.size,7,none⟩=some (.int .i64 S.va.k)∧w'.cell? ⟨w.heap.size,8,none⟩=some (.string S.va.t)∧w'.cell? ⟨w.heap.size,9,none⟩=some (.int .i64 S.va.n)∧w'.cell? ⟨w.heap.size,10,none⟩=some (.string S.va.nm)∧w'.cell? ⟨w.heap.size,11,none⟩=some (.slice S.va.xa S.va.len S.va.cap)∧w'.cell? ⟨w.heap.size,12,none⟩=some (.int .i64 S.pa.k)∧w'.cell? ⟨w.heap.size,13,none⟩=some (.string S.pa.t)∧w'.cell? ⟨w.heap.size,14,none⟩=some (.int .i64 S.pa.n)∧w'.cell? ⟨w.heap.size,15,none⟩=some (.string S.pa.nm)∧w'.cell? ⟨w.heap.size,16,none⟩=some (.slice S.pa.xa S.pa.len S.pa.cap))
        (first | exact aa nO _ hA | exact aa nO _ (hA.alloc (by have:=hA.size;omega) _))
        (first
         | (go_at_call 31;(with_reducible refine(aa HX _ hA).mono ?_);rintro e w7 ⟨rfl,hb7⟩;have hA:=aq hA hb7;clear hb7)
         | (go_at_call 33;(with_reducible refine(aa px _ hA).mono ?_);rintro e w7 ⟨rfl,hb7⟩;have hA:=aq hA hb7;clear hb7)
         | (go_at_call 34;(with_reducible refine(aa HTG _ hA).mono ?_);rintro e w7 ⟨rfl,hb7⟩;have hA:=aq hA hb7;clear hb7)
         | (go_at_call 32;refine(xP [tw,pw,ex] _ _ (by simp) (yc (ax rfl))).mono ?_;rintro e w7 ⟨rfl,rfl⟩;have hA:=hA.alloc (by have:=hA.size;omega) (.cells #[.int .i64 tw,.int .i64 pw,.int .i64 ex] 32)))
       go_wp2_with fail;go_ret;exact⟨by rw[aa HE];rfl,aq (aa aX) hA⟩
     ·replace HK:=ab HK
      clear eU
      as_aux_lemma=>
       have hk:=aa HK;have px:=ab (fun W (h:Below w1.heap.size w1 W)=>zl S.pa W (PT.In.later h (PT.In.later (aa aX) (aa HI).pa)) (((aa oB).2.later (aa aX)).later h))
       have HWN:Hid (Calls prog 35 #[.slice (some ⟨w1.heap.size,0,none⟩) 1 1] (w1.alloc (.cells #[.string S.nm] 9)).drew fun e w'=>e=.returned (.int .i64 (dH [S.nm]))∧Below w1.heap.size w1 w'):=ab ((y5 ⟨some ⟨w1.heap.size,0,none⟩,w1.heap.size,0,1,[S.nm]⟩ _ (GC (l:=[S.nm]) (show (w1.alloc (.cells #[.string S.nm] 9)).drew.heap[w1.heap.size]? =some (.cells #[.string S.nm] 9 (0,0)) from ax rfl) rfl (fun t ht=>by rw[jv] at ht;subst ht;exact(aa HI).txt.2.1) (by simp))).mono fun e w' q=>⟨q.1,q.2▸(ba _).drew⟩)
       unfold pv at px;have HE:Hid (S.wrong=ek [dH [S.nm],S.pa.wrong]):=ab (by rw[aa HE,SV.kndE,ac (by omega),ac (by omega),ac (by omega),ac (by omega),ac (by omega),af hk])
       have e1:(S.k==1)=false:=bn;have e2:(S.k==2)=false:=bn;have e4:(S.k==4)=false:=bn;have e3:(S.k==3)=false:=bn;have e5:(S.k==5)=false:=bn;have e6:(S.k==6)=true:=bt hk;clear hk;generalize S.pa.wrong=pw at *;generalize dH [S.nm]=nw at *;have nO:Hid (∀w':World,Below w1.heap.size w1 w'→(w'.cell? ⟨w.heap.size,12,none⟩=some (.int .i64 S.pa.k)∧w'.cell? ⟨w.heap.size,13,none⟩=some (.string S.pa.t)∧w'.cell? ⟨w.heap.size,14,none⟩=some (.int .i64 S.pa.n)∧w'.cell? ⟨w.heap.size,15,none⟩=some (.string S.pa.nm)∧w'.cell? ⟨w.heap.size,16,none⟩=some (.slice S.pa.xa S.pa.len S.pa.cap)∧w'.cell? ⟨w.heap.size,17,none⟩=some (.string S.nm))):=ab (fun w' h=>⟨av h vz,av h vy,av h vx,av h vw,av h vv,av h c17⟩)
       have hA:Below w1.heap.size w1 w1.drew:=(aV _ _).drew;go_wp2_with fail;go_region_held3 (fun w'=>w'.cell? ⟨w.heap.size,12,none⟩=some (.int .i64 S.pa.k)∧w'.cell? ⟨w.heap.size,13,none⟩=some (.string S.pa.t)∧w'.cell? ⟨w.heap.size,14,none⟩=some (.int .i64 S.pa.n)∧w'.cell? ⟨w.heap.size,15,none⟩=some (.string S.pa.nm)∧w'.cell? ⟨w.heap.size,16,none⟩=some (.slice S.pa.xa S.pa.len S.pa.cap)∧w'.cell? ⟨w.heap.size,17,none⟩=some (.string S.nm))
        (first | exact aa nO _ hA | exact aa nO _ (hA.alloc (by have:=hA.size;omega) _))
        (first
         | (go_at_call 33;(with_reducible refine(aa px _ hA).mono ?_);rintro e w7 ⟨rfl,hb7⟩;have hA:=aq hA hb7;clear hb7)
         | (go_at_call 35;(with_reducible refine(aa HWN).mono ?_);rintro e w7 ⟨rfl,hb7⟩;have hA:=hb7;clear hb7)
         | (go_at_call 32;refine(xP [nw,pw] _ _ (by simp) (yc (ax rfl))).mono ?_;rintro e w7 ⟨rfl,rfl⟩;have hA:=hA.alloc (by have:=hA.size;omega) (.cells #[.int .i64 nw,.int .i64 pw] 32)))
       go_wp2_with fail;go_ret;exact⟨by rw[aa HE];rfl,aq (aa aX) hA⟩
     ·replace HK:=ab HK
      clear eU
      as_aux_lemma=>
       have hk:=aa HK;have pG:=ab (fun W (h:Below w1.heap.size w1 W)=>GP S W (((aa HI).later (aa aX)).later h))
       unfold SV.v SV.cells NL.v at pG;have HE:Hid (S.wrong=S.dfE):=ab (by rw[aa HE,SV.kndE,ac (by omega),ac (by omega),ac (by omega),ac (by omega),ac (by omega),ac (by omega),af hk])
       have e1:(S.k==1)=false:=bn;have e2:(S.k==2)=false:=bn;have e4:(S.k==4)=false:=bn;have e3:(S.k==3)=false:=bn;have e5:(S.k==5)=false:=bn;have e6:(S.k==6)=false:=bn;have e7:(S.k==7)=true:=bt hk;clear hk;have hA:Below w1.heap.size w1 w1:=aV _ _;go_wp2_with (first
        | (refine io rfl 30 _ rfl w.heap.size rfl 30 _ (0,0) _ (aa dU) underlying30 rfl AZ ?_)
        | fail)
       refine(aa pG w1 hA).mono ?_;rintro e w7 ⟨rfl,hb7⟩;have hA:=aq hA hb7;clear hb7;go_wp2_with fail;go_ret;exact⟨by rw[aa HE];rfl,aq (aa aX) hA⟩
     ·replace HK:=ab HK
      clear eU
      as_aux_lemma=>
       have hk:=aa HK;have HE:Hid (S.wrong=1):=ab (by rw[aa HE,SV.kndE,ac (by omega),ac (by omega),ac (by omega),ac (by omega),ac (by omega),ac (by omega),ac (by omega)])
       have e1:(S.k==1)=false:=bn;have e2:(S.k==2)=false:=bn;have e4:(S.k==4)=false:=bn;have e3:(S.k==3)=false:=bn;have e5:(S.k==5)=false:=bn;have e6:(S.k==6)=false:=bn;have e7:(S.k==7)=false:=bn;clear hk;go_wp2_with fail;go_ret;exact⟨by rw[aa HE];rfl,aa aX⟩
    ·have HE:Hid (S.wrong=8):=ab (by rw[aa HE0,af rfl])
     clear HE0;go_wp2_with fail;go_ret;exact⟨by rw[aa HE];rfl,aa aX⟩
end Go.Proofs.YtlmnjbipfacniaaGreatDoor
