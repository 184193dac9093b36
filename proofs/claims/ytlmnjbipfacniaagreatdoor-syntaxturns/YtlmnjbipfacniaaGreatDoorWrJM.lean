/- The writer of lines: calls; every expression. The writer of -/
import Derived.Test.YtlmnjbipfacniaaGreatDoorWrHM
import Derived.Test.YtlmnjbipfacniaaGreatDoorClone4M
set_option maxRecDepth 100000
set_option maxHeartbeats 8000000
namespace Go.Proofs.YtlmnjbipfacniaaGreatDoor
open Go.Proofs.Tryz
open Go.RowKit
def csm (T:PT) (i:Nat):Nat:=eU (fun i=>(T.kid i).cnt) i
def CK (B z:Nat) (W w:World) (v:Value) (o:List UInt8) (f:Bool) (T:PT) (i:Nat) (w':World):Prop:=
 ∃v' o' f',Wn B z W w v o f ((T.nm.data.toList++[40])++ar (jm (T.kidI 0) i)) (17+2 * i+40 * csm T i) w' v' o' f'
theorem GE (T:PT) {i:Nat} (h:i≤T.len):csm T i+1≤T.cnt:=by
 have:=wM (fun i=>(T.kid i).cnt) h
 rw[T.cnt_eq];unfold csm;omega
theorem Mb {T:PT} (hk:T.k=6) (dq:bp T.nm=true) (h8:T.len≤8) (lJ:∀i,i < T.len→sP (T.kid i)) {W w:World} {B z:Nat} {v:Value} {o:List UInt8} {f:Bool} (hE:EnvW W) (hT:T.In W) (hb:Below W.heap.size W w) (hz:W.heap.size≤z) (hW:WrI B z w v o f) (aA:T.badX=0) (cM:max o.length 140000+(40 * T.cnt - 2)≤9000000):
  Calls prog 128 #[.pointer (some ⟨z,0,none⟩),.agg #[.int .i64 6,.string T.t,.int .i64 T.n,.string T.nm,.slice T.xa T.len T.cap]] w fun e w'=>iv B z w v o (ar T.exI) f (40 * T.cnt - 2) e w':=by
 have j1:=T.cnt_pos;have hzl:z < w.heap.size:=(bC.1 hW.blk).1;have bY:w.heap.size≠z:=by omega
 obtain⟨w1,aL⟩:∃w1,w1=w.alloc (.cells #[.int .i64 6,.string T.t,.int .i64 T.n,.string T.nm,.slice T.xa T.len T.cap] 24):=⟨_,rfl⟩;have bz:Below w.heap.size w w1:=by rw[aL];exact ba _
 have an:w1.heap[w.heap.size]? =some (.cells #[.int .i64 6,.string T.t,.int .i64 T.n,.string T.nm,.slice T.xa T.len T.cap] 24 (0,0)):=by rw[aL];exact aw rfl
 have H1:=ab ((Wn.start hb hW).below bz);have bq:=ab an;have bP:Hid (w1.heap.size=w.heap.size+1):=ab (by rw[aL];simp)
 have bi:Hid (w.alloc (.cells #[.int .i64 6,.string T.t,.int .i64 T.n,.string T.nm,.slice T.xa T.len T.cap] 24)=w1):=ab (aL.symm);have HZ:=ab (And.intro hE hz);have HI:Hid (ar T.exI=((T.nm.data.toList++[40])++ar (jm (T.kidI 0) T.len))++[41]):=ab (by
  rw[T.exI_eq,hk];show ar (wd T.nm::sg 40::(jm (T.kidI 0) T.len++[sg 41]))=_;rw[dA,dA,gj];show T.nm.data.toList++([40]++(ar (jm (T.kidI 0) T.len)++[41]))=_;simp)
 have hns:=(ms dq).2.1;have e40:(ah 40).size=1:=rfl;have e41:(ah 41).size=1:=rfl;have cf:Hid (Calls prog 42 #[.pointer (some ⟨z,0,none⟩),.slice (some ⟨w1.heap.size,0,none⟩) 2 2] (w1.alloc (.cells #[.string T.nm,.string ⟨#[40]⟩] 9)) _):=ab ((aa H1).put (aa HZ).1 (aa HZ).2 (by omega) [T.nm,ah 40] (by simp) (fun t ht=>by simp only[dU,ek,fL] at ht;rcases ht with rfl | rfl <;> omega) 17 (by show (bN [T.nm,ah 40]).length≤17;unfold bN;simp only[ia,iQ,bg,List.length_nil,fh];omega))
 rw[aa bP] at cf;have HKS:=ab (fun (i:Nat) (hi:i < T.len) (w2:World) (v2:Value) (o2:List UInt8) (f2:Bool) h3 h4 h5=>show Calls prog 43 #[.pointer (some ⟨z,0,none⟩),.agg #[.int .i64 (T.kid i).k,.string (T.kid i).t,.int .i64 (T.kid i).n,.string (T.kid i).nm,.slice (T.kid i).xa (T.kid i).len (T.kid i).cap],.int .i64 0] w2 fun e w'=>iv B z w2 v2 o2 (ar ((T.kid i).atl 0)) f2 (40 * (T.kid i).cnt) e w' from lJ i hi W w2 B z v2 o2 f2 0 hE (hT.kids hi) h3 hz h4 ((iV aA).2 i hi) h5)
 have HIX:=ab (fun (i:Nat) (hi:i < T.len) w=>mu hT (k:=i) hi w)
 have HKC:=ab (fun (i:Nat) (hi:i < T.len) (W1:World) (h:Below W.heap.size W W1)=>(PT.In.later h hT).cells (i:=i) hi)
 have kL:Below W.heap.size W w:=hb;have hWl:W.heap.size≤w.heap.size:=hb.size;clear hk aA hT hE hb hW bz an aL lJ kL;obtain⟨n,hn⟩:∃n,n=T.len:=⟨_,rfl⟩;have HN:=ab hn;have hn8:n≤8:=by omega
 rw[←hn] at bq bi ⊢;clear hn h8;go_enter func128,ntmps128;go_wp2_with fail;rw[aa bi];refine(aa cf).mono ?_;rintro e w2 ⟨rfl,v2,o2,f2,h2,cN⟩;have yU:=cN.keep (aa H1).wr (aa bq) (by decide) bY
 obtain⟨x0,x1,x2,x3,x4⟩:=nL yU;have H0:Hid (CK B z W w v o f T 0 w2):=ab (⟨v2,o2,f2,by
  have e:([]++bN [T.nm,ah 40])=((T.nm.data.toList++[40])++ar (jm (T.kidI 0) 0)):=by rw[kE,fJ];show []++(T.nm.data.toList++[40])=(T.nm.data.toList++[40])++[];simp
  rw[←e];exact h2⟩)
 clear h2 cN cf H1 bq bi bP yU;go_wp2_with fail;clear x0 x1 x2 x3 x4;go_loopw [14] (fun u wr=>∃i:Nat,i≤n∧u=.int .i64 (i:Int)∧Hid (CK B z W w v o f T i wr)) (fun u _=>n - (intOf u).toNat)
 case atStart=>exact⟨0,cU _,rfl,aa H0⟩
 case round=>
  obtain⟨i,hi,rfl,HC⟩:=hrel;rcases cX i n with au | jc
  ·have hiT:i < T.len:=by have:=aa HN;omega
   obtain⟨v',o',f',jY⟩:=aa HC;have kw:=GE T (i:=i+1) (by omega)
   have hcs2:csm T (i+1)=csm T i+(T.kid i).cnt:=rfl;have HX:=ab jY;obtain⟨q,hq⟩:∃q,q=T.o+i * 5:=⟨_,rfl⟩;have ma:=aa HIX i hiT;obtain⟨k0,k1,k2,k3,k4⟩:=aa HKC i hiT wr jY.bel;rw[←hq] at ma k0 k1 k2 k3 k4;unfold PT.kv at k4;rw[←aa HN] at ma;have HKI:=ab (aa HKS i hiT);have tZ:Hid (∀(w3:World) (v3:Value) (o3:List UInt8) (f3:Bool) (S:List UInt8) (c:Nat),(S=if 0 < i then [44,32] else [])→c≤2→Wn B z W w v o f ((((T.nm.data.toList++[40])++ar (jm (T.kidI 0) i))++S)++ar ((T.kid i).atl 0)) ((17+2 * i+40 * csm T i)+c+40 * (T.kid i).cnt) w3 v3 o3 f3→CK B z W w v o f T (i+1) w3):=ab (fun w3 v3 o3 f3 S c hS hc h=>⟨v3,o3,f3,by
    have e:(((T.nm.data.toList++[40])++ar (jm (T.kidI 0) i))++S)++ar ((T.kid i).atl 0)=(T.nm.data.toList++[40])++ar (jm (T.kidI 0) (i+1)):=by
     rw[jm,qr hiT,gj,gj,hS]
     by_cases q:0 < i
     ·rw[af q,af q]
      show _=_++(ar (jm (T.kidI 0) i)++([44,32]++ar ((T.kid i).atl 0)));simp
     ·rw[ac q,ac q]
      show _=_++(ar (jm (T.kidI 0) i)++([]++ar ((T.kid i).atl 0)));simp
    rw[e] at h;exact⟨h.bel,h.wr,h.wx,h.gw.more (by rw[hcs2];omega),h.ff⟩⟩)
   have vL:=ab (And.intro kw hcs2);clear jY HC H0 kw hcs2 hq;generalize T.kid i=x at *;have vo:Below wr.heap.size wr (wr.alloc (.cells #[.int .i64 x.k,.string x.t,.int .i64 x.n,.string x.nm,.slice x.xa x.len x.cap] 24)):=ba _;have hnb:wr.heap.size≠z:=by have:=(bC.1 (aa HX).wr.blk).1;omega
   obtain⟨wb,hwb⟩:∃wb,wb=wr.alloc (.cells #[.int .i64 x.k,.string x.t,.int .i64 x.n,.string x.nm,.slice x.xa x.len x.cap] 24):=⟨_,rfl⟩;have tK:wb.heap[wr.heap.size]? =some (.cells #[.int .i64 x.k,.string x.t,.int .i64 x.n,.string x.nm,.slice x.xa x.len x.cap] 24 (0,0)):=by rw[hwb];exact aw rfl
   rw[←hwb] at vo;have HB:=ab ((aa HX).below vo);have HBB:=ab tK;have HWB:Hid (wr.alloc (.cells #[.int .i64 x.k,.string x.t,.int .i64 x.n,.string x.nm,.slice x.xa x.len x.cap] 24)=wb):=ab (hwb.symm);have tW:Hid (wb.heap.size=wr.heap.size+1):=ab (by rw[hwb];simp)
   clear vo tK hwb HX
   by_cases h0:i=0
   ·have q0:¬(0:Int) < (i:Int):=by omega
    have gY:=ab (aa HKI wb v' o' f' (aa HB).bel (aa HB).wr ((aa HB).len2 (by have:=aa vL;omega)))
    have HS:=ab h0;clear h0;go_wp2_with fail;rw[aa HWB];refine(aa gY).mono ?_;rintro e w3 ⟨rfl,be⟩;obtain⟨v3,o3,f3,h3, -⟩:=(aa HB).sub (aa HZ).2 be;have HZ3:=ab (aa tZ w3 v3 o3 f3 [] 0 (by rw[ac (by have:=aa HS;omega)]) (by omega) (by rw[k9];exact h3))
    clear be h3 gY HB HBB HWB tW tZ;go_wp2_with fail;exact⟨⟨i+1,by omega,rfl,aa HZ3⟩,by simp[intOf];omega⟩
   ·have q0:(0:Int) < (i:Int):=by omega
    have ecs:(⟨#[44,32]⟩:ByteArray).size=2:=rfl;have HP:Hid (Calls prog 42 #[.pointer (some ⟨z,0,none⟩),.slice (some ⟨wb.heap.size,0,none⟩) 1 1] (wb.alloc (.cells #[.string ⟨#[44,32]⟩] 9)) _):=ab ((aa HB).put (aa HZ).1 (aa HZ).2 (by have:=aa vL;omega) [⟨#[44,32]⟩] (by simp) (fun t ht=>by rw[fE] at ht;subst ht;omega) 2 (by decide))
    rw[aa tW] at HP;have HS:=ab h0;clear h0;go_wp2_with fail;rw[aa HWB];refine(aa HP).mono ?_;rintro e w2 ⟨rfl,v2,o2,f2,h2,cN⟩;obtain⟨x0,x1,x2,x3,x4⟩:=nL (cN.keep (aa HB).wr (aa HBB) (by decide) hnb)
    have gY:=ab (aa HKI w2 v2 o2 f2 h2.bel h2.wr (h2.len2 (by have:=aa vL;omega)))
    have H2:=ab h2;clear h2 cN HP;go_wp2_with fail;refine(aa gY).mono ?_;rintro e w3 ⟨rfl,be⟩;obtain⟨v3,o3,f3,h3, -⟩:=(aa H2).sub (aa HZ).2 be;have HZ3:=ab (aa tZ w3 v3 o3 f3 [44,32] 2 (by rw[af (by have:=aa HS;omega)]) (by omega) (by rw[fJ] at h3;exact h3))
    clear be h3 gY HB HBB HWB tW tZ H2 x0 x1 x2 x3 x4;go_wp2_with fail;exact⟨⟨i+1,by omega,rfl,aa HZ3⟩,by simp[intOf];omega⟩
  ·obtain rfl:i=n:=by omega
   obtain⟨v',o',f',jY⟩:=aa HC;have kw:=GE T (i:=i) (by have:=aa HN;omega)
   have HX:=ab jY;have HP:Hid (Calls prog 42 #[.pointer (some ⟨z,0,none⟩),.slice (some ⟨wr.heap.size,0,none⟩) 1 1] (wr.alloc (.cells #[.string ⟨#[41]⟩] 9)) _):=ab ((aa HX).put (aa HZ).1 (aa HZ).2 (by omega) [ah 41] (by simp) (fun t ht=>by rw[fE] at ht;subst ht;omega) 1 (by decide))
   clear jY HC HX;go_wp2_with fail;refine(aa HP).mono ?_;rintro e w3 ⟨rfl,v3,o3,f3,h3, -⟩;have HF:=ab (h3.done (t:=ar T.exI) (c:=40 * T.cnt - 2) (by rw[aa HI,←aa HN,fJ];rfl) (by omega))
   clear h3;go_wp2_with fail;go_end0;exact⟨rfl,aa HF⟩
theorem bare_6 {T:PT} (hk:T.k=6) (dq:bp T.nm=true) (h8:T.len≤8) (lJ:∀i,i < T.len→sP (T.kid i)):rC T:=by
 intro W w B z v o f hE hT hb hz hW aA cM;obtain⟨s0,s1,s2,s3,s4⟩:=uy (hE.shx.later hb) 6 6 rfl (by decide) (by decide)
 have ks:(0:Nat) < w.heap.size:=de _ _ s0;have hgl':¬w.heap.size=0:=by omega
 have qE:¬w.heap.size+1=0:=by omega
 have j1:=T.cnt_pos;have hzl:z < w.heap.size:=(bC.1 hW.blk).1;have bY:w.heap.size≠z:=by omega
 have m9:w.heap.size+1≠z:=by omega
 obtain⟨w1,aL⟩:∃w1,w1=(w.alloc (.cells #[.int .i64 6,.string T.t,.int .i64 T.n,.string T.nm,.slice T.xa T.len T.cap] 24)).alloc (.cells #[.string (cL 6),.int .i64 (bB 6),.bool (bW 6),.int .i64 (bG 6),.int .i64 (bF 6)] 128):=⟨_,rfl⟩;have bz:Below w.heap.size w w1:=by rw[aL];exact(ba _).alloc (by simp) _
 have an:w1.heap[w.heap.size]? =some (.cells #[.int .i64 6,.string T.t,.int .i64 T.n,.string T.nm,.slice T.xa T.len T.cap] 24 (0,0)):=by rw[aL];exact bL (by simp) (aw rfl)
 have fN:w1.heap[w.heap.size+1]? =some (.cells #[.string (cL 6),.int .i64 (bB 6),.bool (bW 6),.int .i64 (bG 6),.int .i64 (bF 6)] 128 (0,0)):=by rw[aL];exact aw (by simp)
 have H1:=ab ((Wn.start hb hW).below bz);have bq:=ab an;have lS:=ab fN;have bP:Hid (w1.heap.size=w.heap.size+1+1):=ab (by rw[aL];simp)
 have bi:Hid ((w.alloc (.cells #[.int .i64 6,.string T.t,.int .i64 T.n,.string T.nm,.slice T.xa T.len T.cap] 24)).alloc (.cells #[.string (cL 6),.int .i64 (bB 6),.bool (bW 6),.int .i64 (bG 6),.int .i64 (bF 6)] 128)=w1):=ab (aL.symm);have HZ:=ab (And.intro hE hz);have HT:=ab hT;unfold pv;rw[hk];have HCL:=ab (Mb hk dq h8 lJ hE hT (aa H1).bel hz (aa H1).wr aA cM);clear hk aA hT hE hb hW bz an fN aL lJ;generalize cL 6=sgx at *;generalize bB 6=lvx at *;generalize bW 6=nmx at *;generalize bG 6=lsx at *;generalize bF 6=msx at *;go_enter func80,ntmps80;go_wp2_with fail;rw[aa bi];refine(aa HCL).mono ?_;rintro e w2 ⟨rfl,be⟩;obtain⟨v3,o3,f3,h3, -⟩:=(aa H1).sub (aa HZ).2 be;have HF:=ab (h3.done (t:=ar T.exI) (c:=40 * T.cnt - 2) rfl (by omega))
 clear be h3;go_wp2_with fail;go_end0;exact⟨rfl,aa HF⟩
theorem JC:∀T:PT,rC T:=PT.ind fun T ih=>by
 by_cases hb:T.badX=0
 ·obtain⟨he,qM⟩:=iV hb
  obtain⟨⟨k1,tG⟩,ht,hN,dq,hl,hm⟩:=oz he;have hK:∀i,i < T.len→sP (T.kid i):=fun i hi=>Fr (ih i hi)
  have hc:T.k=1∨T.k=2∨T.k=3∨T.k=4∨T.k=5∨T.k=6∨T.k=7∨8≤T.k:=by omega
  rcases hc with h | h | h | h | h | h | h | h
  ·exact bare_1 h (ht h)
  ·exact bare_2 h
  ·rw[h] at dq;exact bare_3 h (dq rfl)
  ·rw[h] at hm dq hl
   exact bare_4 h (dq rfl) (by have:bF 4=1:=rfl;have:bG 4=1:=rfl;omega) hK
  ·rw[h] at hm hl
   exact bare_5 h (by have:bF 5=1:=rfl;have:bG 5=1:=rfl;omega) hK
  ·rw[h] at hm dq;exact bare_6 h (dq rfl) (by have:bF 6=8:=rfl;omega) hK
  ·rw[h] at hm hl
   exact bare_7 h (by have:bF 7=1:=rfl;have:bG 7=1:=rfl;omega) hK
  ·have h2:bF T.k=2∧bG T.k=2:=by
    have:T.k=8∨T.k=9∨T.k=10∨T.k=11∨T.k=12∨T.k=13:=by omega
    rcases this with h | h | h | h | h | h <;> rw[h] <;> exact⟨rfl,rfl⟩
   exact Mg h tG (by omega) hK
 ·exact fun W w B z v o f _ _ _ _ _ h=>absurd h hb
theorem wS (T:PT):sP T:=Fr (JC T)
open Go.RowKit
def kY (h t:ByteArray):List UInt8:=if t.size=0 then [] else h.data.toList++([40]++(t.data.toList++[41]))
theorem zn {t:ByteArray} (h:t.size≠0):t.toList.isEmpty=false:=by rw[isEmpty_iff];exact dh h
theorem zf {t:ByteArray} (h:t.size=0):t.toList.isEmpty=true:=by rw[isEmpty_iff];exact eW h
theorem sI {W w:World} {B z:Nat} {v:Value} {o:List UInt8} {f:Bool} (h t:ByteArray) (hE:EnvW W) (hb:Below W.heap.size W w) (hz:W.heap.size≤z) (hW:WrI B z w v o f) (hh:h.size≤1) (ht:t.size≤16) (ho:max o.length 140000+19≤9900000):
  Calls prog 84 #[.pointer (some ⟨z,0,none⟩),.string h,.string t] w fun e w'=>iv B z w v o (kY h t) f 19 e w':=by
 have H1:=ab (Wn.start hb hW);have HZ:=ab (And.intro hE hz);have e40:(ah 40).size=1:=rfl;have e41:(ah 41).size=1:=rfl;have cf:Hid (Calls prog 42 #[.pointer (some ⟨z,0,none⟩),.slice (some ⟨w.heap.size,0,none⟩) 4 4] (w.alloc (.cells #[.string h,.string ⟨#[40]⟩,.string t,.string ⟨#[41]⟩] 9)) _):=ab ((aa H1).put hE hz (by omega) [h,ah 40,t,ah 41] (by simp) (fun t ht=>by simp only[dU,ek,fL] at ht;rcases ht with rfl | rfl | rfl | rfl <;> omega) 19 (by show (bN [h,ah 40,t,ah 41]).length≤19;unfold bN;simp only[ia,iQ,bg,List.length_nil,fh];omega))
 clear hE hb hW
 by_cases h0:t.size=0
 ·have HT:Hid (kY h t=[]):=ab (af h0)
  have he:=zf h0;have HF:=ab ((aa H1).done (t:=kY h t) (c:=19) (aa HT).symm (by omega))
  clear h0;go_enter func84,ntmps84;go_wp2_with fail;go_end0;exact⟨rfl,aa HF⟩
 ·have HT:Hid (kY h t=h.data.toList++([40]++(t.data.toList++[41]))):=ab (ac h0)
  have he:=zn h0;clear h0;go_enter func84,ntmps84;go_wp2_with fail;refine(aa cf).mono ?_;rintro e w2 ⟨rfl,v2,o2,f2,h2, -⟩;have HF:=ab (h2.done (t:=kY h t) (c:=19) (by rw[aa HT,kE,kE,kE,fJ];rfl) (by omega))
  clear h2;go_wp2_with fail;go_end0;exact⟨rfl,aa HF⟩
theorem B9 (h t:ByteArray) (w:List It) (hw:ar w=h.data.toList):ar (mz w t)=kY h t:=by
 unfold mz kY;split
 ·rfl
 ·rw[gj,hw]
  show _++([40]++(t.data.toList++[41]))=_;rfl
theorem bE {w:World} {g:Nat} {C:Array Value} {t:TypeId} (h:w.heap[g]? =some (.cells C t (0,0))) {k:Nat} {u:Value} (hk:C[k]? =some u):w.cell? ⟨g,k,none⟩=some u:=by rw[eX _ _ _ _ _ _ h];exact hk
theorem vR (S:SV) {W w:World} {B z:Nat} {v:Value} {o:List UInt8} {f:Bool} (hE:EnvW W) (hb:Below W.heap.size W w) (hz:W.heap.size≤z) (hW:WrI B z w v o f) (ha:S.al.size≤16) (hy:S.ye.size≤16) (hn:S.no.size≤16) (ho:max o.length 140000+80≤9900000):
  Calls prog 45 #[.pointer (some ⟨z,0,none⟩),S.v] w fun e w'=>iv B z w v o (ar (dG S)) f 80 e w':=by
 have hzl:z < w.heap.size:=(bC.1 hW.blk).1;have bY:w.heap.size≠z:=by omega
 obtain⟨C,hC⟩:∃C,C=S.cells:=⟨_,rfl⟩;have dc:S.v=.agg C:=by rw[hC];rfl
 have HC:Hid (C.size=24∧C[21]? =some (.string S.al)∧C[22]? =some (.string S.ye)∧C[23]? =some (.string S.no)):=ab (by rw[hC];exact⟨rfl,rfl,rfl,rfl⟩)
 rw[dc];obtain⟨w1,aL⟩:∃w1,w1=w.alloc (.cells C 30):=⟨_,rfl⟩;have bz:Below w.heap.size w w1:=by rw[aL];exact ba _
 have an:w1.heap[w.heap.size]? =some (.cells C 30 (0,0)):=by rw[aL];exact aw rfl
 have H1:=ab ((Wn.start hb hW).below bz);have bq:=ab an;have bP:Hid (w1.heap.size=w.heap.size+1):=ab (by rw[aL];simp)
 have bi:Hid (w.alloc (.cells C 30)=w1):=ab (aL.symm);have HZ:=ab (And.intro hE hz);have e2:(⟨#[32,58]⟩:ByteArray).size=2:=rfl;have AL:=bE an (aa HC).2.1;have AK:=bE an (aa HC).2.2.1;have AJ:=bE an (aa HC).2.2.2;rw[aL] at AL AK AJ;have HIY:Hid ((¬(S.al.size=0∧S.ye.size=0∧S.no.size=0))→ar (dG S)=[32,58]++(kY ByteArray.empty S.al++(kY ⟨#[83]⟩ S.ye++kY ⟨#[70]⟩ S.no))):=ab (fun h=>by
  unfold dG;rw[ac h,dA,dA,gj,gj,B9 ByteArray.empty S.al [] rfl,B9 ⟨#[83]⟩ S.ye [wd (ah 83)] rfl,B9 ⟨#[70]⟩ S.no [wd (ah 70)] rfl];rfl)
 have je:Hid ((S.al.size=0∧S.ye.size=0∧S.no.size=0)→ar (dG S)=[]):=ab (fun h=>by unfold dG;rw[af h];rfl)
 clear hE hb hW bz an aL hC dc
 by_cases ea:S.al.size=0
 ·have ha0:=zf ea
  by_cases ey:S.ye.size=0
  ·have hy0:=zf ey
   by_cases en:S.no.size=0
   ·have hn0:=zf en
    have HI:=ab (aa je ⟨ea,ey,en⟩);have HF:=ab ((aa H1).done (t:=ar (dG S)) (c:=80) (aa HI).symm (by omega))
    clear ea ey en HIY je;go_enter func45,ntmps45;go_wp2_with fail;rw[aa bi];refine ck (results_none rfl _ _ _) rfl ?_;exact⟨rfl,aa HF⟩
   ·have hn0:=zn en
    have HI:=ab (aa HIY (fun q=>en q.2.2))
    clear ea ey en HIY je;have cf:Hid (Calls prog 42 #[.pointer (some ⟨z,0,none⟩),.slice (some ⟨w1.heap.size,0,none⟩) 1 1] (w1.alloc (.cells #[.string ⟨#[32,58]⟩] 9)) _):=ab ((aa H1).put (aa HZ).1 (aa HZ).2 (by omega) [⟨#[32,58]⟩] (by simp) (fun t ht=>by simp only[dU,ek,fL] at ht;subst ht;omega) 2 (by decide))
    rw[aa bP] at cf;go_enter func45,ntmps45;go_wp2_with fail;rw[aa bi];refine(aa cf).mono ?_;rintro e w2 ⟨rfl,v2,o2,f2,h2,cN⟩;have cR:=ab (cN.keep (aa H1).wr (aa bq) (by decide) bY)
    have vw:=bE (aa cR) (aa HC).2.1;have eB:=ab (sI ByteArray.empty S.al (aa HZ).1 h2.bel (aa HZ).2 h2.wr (by decide) ha (h2.len2 (by omega)))
    have H2:=ab h2;clear h2 cN cf H1 AL AK AJ;unfold ByteArray.empty ByteArray.emptyWithCapacity at eB;go_wp2_with fail;refine(aa eB).mono ?_;rintro e w3 ⟨rfl,be⟩;obtain⟨v3,o3,f3,h3,dp⟩:=(aa H2).sub (aa HZ).2 be;have cY:=ab (dp.keep (aa H2).wr (aa cR) (by decide) bY)
    have nA:=bE (aa cY) (aa HC).2.2.1;have cZ:=ab (sI ⟨#[83]⟩ S.ye (aa HZ).1 h3.bel (aa HZ).2 h3.wr (by decide) hy (h3.len2 (by omega)))
    have H3:=ab h3;clear h3 dp be eB H2 vw;go_wp2_with fail;refine(aa cZ).mono ?_;rintro e w4 ⟨rfl,be⟩;obtain⟨v4,o4,f4,h4,cy⟩:=(aa H3).sub (aa HZ).2 be;have lK:=ab (cy.keep (aa H3).wr (aa cY) (by decide) bY)
    have c23:=bE (aa lK) (aa HC).2.2.2;have gB:=ab (sI ⟨#[70]⟩ S.no (aa HZ).1 h4.bel (aa HZ).2 h4.wr (by decide) hn (h4.len2 (by omega)))
    have H4:=ab h4;clear h4 cy be cZ H3 nA;go_wp2_with fail;refine(aa gB).mono ?_;rintro e w5 ⟨rfl,be⟩;obtain⟨v5,o5,f5,h5, -⟩:=(aa H4).sub (aa HZ).2 be;have HF:=ab (h5.done (t:=ar (dG S)) (c:=80) (by rw[aa HI,fJ];show []++[32,58]++kY ByteArray.empty S.al++kY ⟨#[83]⟩ S.ye++kY ⟨#[70]⟩ S.no=_;simp) (by omega))
    clear h5 be gB H4 c23;go_wp2_with fail;go_end0;exact⟨rfl,aa HF⟩
  ·have hy0:=zn ey
   have HI:=ab (aa HIY (fun q=>ey q.2.1))
   clear ea ey HIY je;have cf:Hid (Calls prog 42 #[.pointer (some ⟨z,0,none⟩),.slice (some ⟨w1.heap.size,0,none⟩) 1 1] (w1.alloc (.cells #[.string ⟨#[32,58]⟩] 9)) _):=ab ((aa H1).put (aa HZ).1 (aa HZ).2 (by omega) [⟨#[32,58]⟩] (by simp) (fun t ht=>by simp only[dU,ek,fL] at ht;subst ht;omega) 2 (by decide))
   rw[aa bP] at cf;go_enter func45,ntmps45;go_wp2_with fail;rw[aa bi];refine(aa cf).mono ?_;rintro e w2 ⟨rfl,v2,o2,f2,h2,cN⟩;have cR:=ab (cN.keep (aa H1).wr (aa bq) (by decide) bY)
   have vw:=bE (aa cR) (aa HC).2.1;have eB:=ab (sI ByteArray.empty S.al (aa HZ).1 h2.bel (aa HZ).2 h2.wr (by decide) ha (h2.len2 (by omega)))
   have H2:=ab h2;clear h2 cN cf H1 AL AK AJ;unfold ByteArray.empty ByteArray.emptyWithCapacity at eB;go_wp2_with fail;refine(aa eB).mono ?_;rintro e w3 ⟨rfl,be⟩;obtain⟨v3,o3,f3,h3,dp⟩:=(aa H2).sub (aa HZ).2 be;have cY:=ab (dp.keep (aa H2).wr (aa cR) (by decide) bY)
   have nA:=bE (aa cY) (aa HC).2.2.1;have cZ:=ab (sI ⟨#[83]⟩ S.ye (aa HZ).1 h3.bel (aa HZ).2 h3.wr (by decide) hy (h3.len2 (by omega)))
   have H3:=ab h3;clear h3 dp be eB H2 vw;go_wp2_with fail;refine(aa cZ).mono ?_;rintro e w4 ⟨rfl,be⟩;obtain⟨v4,o4,f4,h4,cy⟩:=(aa H3).sub (aa HZ).2 be;have lK:=ab (cy.keep (aa H3).wr (aa cY) (by decide) bY)
   have c23:=bE (aa lK) (aa HC).2.2.2;have gB:=ab (sI ⟨#[70]⟩ S.no (aa HZ).1 h4.bel (aa HZ).2 h4.wr (by decide) hn (h4.len2 (by omega)))
   have H4:=ab h4;clear h4 cy be cZ H3 nA;go_wp2_with fail;refine(aa gB).mono ?_;rintro e w5 ⟨rfl,be⟩;obtain⟨v5,o5,f5,h5, -⟩:=(aa H4).sub (aa HZ).2 be;have HF:=ab (h5.done (t:=ar (dG S)) (c:=80) (by rw[aa HI,fJ];show []++[32,58]++kY ByteArray.empty S.al++kY ⟨#[83]⟩ S.ye++kY ⟨#[70]⟩ S.no=_;simp) (by omega))
   clear h5 be gB H4 c23;go_wp2_with fail;go_end0;exact⟨rfl,aa HF⟩
 ·have ha0:=zn ea
  have HI:=ab (aa HIY (fun q=>ea q.1))
  clear ea HIY je;have cf:Hid (Calls prog 42 #[.pointer (some ⟨z,0,none⟩),.slice (some ⟨w1.heap.size,0,none⟩) 1 1] (w1.alloc (.cells #[.string ⟨#[32,58]⟩] 9)) _):=ab ((aa H1).put (aa HZ).1 (aa HZ).2 (by omega) [⟨#[32,58]⟩] (by simp) (fun t ht=>by simp only[dU,ek,fL] at ht;subst ht;omega) 2 (by decide))
  rw[aa bP] at cf;go_enter func45,ntmps45;go_wp2_with fail;rw[aa bi];refine(aa cf).mono ?_;rintro e w2 ⟨rfl,v2,o2,f2,h2,cN⟩;have cR:=ab (cN.keep (aa H1).wr (aa bq) (by decide) bY)
  have vw:=bE (aa cR) (aa HC).2.1;have eB:=ab (sI ByteArray.empty S.al (aa HZ).1 h2.bel (aa HZ).2 h2.wr (by decide) ha (h2.len2 (by omega)))
  have H2:=ab h2;clear h2 cN cf H1 AL AK AJ;unfold ByteArray.empty ByteArray.emptyWithCapacity at eB;go_wp2_with fail;refine(aa eB).mono ?_;rintro e w3 ⟨rfl,be⟩;obtain⟨v3,o3,f3,h3,dp⟩:=(aa H2).sub (aa HZ).2 be;have cY:=ab (dp.keep (aa H2).wr (aa cR) (by decide) bY)
  have nA:=bE (aa cY) (aa HC).2.2.1;have cZ:=ab (sI ⟨#[83]⟩ S.ye (aa HZ).1 h3.bel (aa HZ).2 h3.wr (by decide) hy (h3.len2 (by omega)))
  have H3:=ab h3;clear h3 dp be eB H2 vw;go_wp2_with fail;refine(aa cZ).mono ?_;rintro e w4 ⟨rfl,be⟩;obtain⟨v4,o4,f4,h4,cy⟩:=(aa H3).sub (aa HZ).2 be;have lK:=ab (cy.keep (aa H3).wr (aa cY) (by decide) bY)
  have c23:=bE (aa lK) (aa HC).2.2.2;have gB:=ab (sI ⟨#[70]⟩ S.no (aa HZ).1 h4.bel (aa HZ).2 h4.wr (by decide) hn (h4.len2 (by omega)))
  have H4:=ab h4;clear h4 cy be cZ H3 nA;go_wp2_with fail;refine(aa gB).mono ?_;rintro e w5 ⟨rfl,be⟩;obtain⟨v5,o5,f5,h5, -⟩:=(aa H4).sub (aa HZ).2 be;have HF:=ab (h5.done (t:=ar (dG S)) (c:=80) (by rw[aa HI,fJ];show []++[32,58]++kY ByteArray.empty S.al++kY ⟨#[83]⟩ S.ye++kY ⟨#[70]⟩ S.no=_;simp) (by omega))
  clear h5 be gB H4 c23;go_wp2_with fail;go_end0;exact⟨rfl,aa HF⟩
end Go.Proofs.YtlmnjbipfacniaaGreatDoor
