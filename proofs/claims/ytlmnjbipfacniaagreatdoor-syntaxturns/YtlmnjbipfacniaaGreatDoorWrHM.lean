/- The writer of lines: piece behind piece; expressions where o -/
import Derived.Test.YtlmnjbipfacniaaGreatDoorWrDM
import Derived.Test.YtlmnjbipfacniaaGreatDoorStCM
import Derived.Test.YtlmnjbipfacniaaGreatDoorRegionSinkM
set_option maxRecDepth 100000
set_option maxHeartbeats 8000000
namespace Go.Proofs.YtlmnjbipfacniaaGreatDoor
open Go.Proofs.Tryz
open Go.RowKit
structure Wn (B z:Nat) (W w:World) (v:Value) (o:List UInt8) (f:Bool) (T:List UInt8) (C:Nat) (w':World) (v':Value) (o':List UInt8) (f':Bool):Prop where
 bel:Below W.heap.size W w'
 wr:WrI B z w' v' o' f'
 wx:WX z w w' v v'
 gw:Gw o T o' C
 ff:f'=(f || eN T)
section
variable {B z:Nat} {W w w1 w2:World} {v v1:Value} {o o1 T t:List UInt8} {f f1:Bool} {C c:Nat}
theorem Wn.start (hb:Below W.heap.size W w) (hW:WrI B z w v o f):Wn B z W w v o f [] 0 w v o f:=⟨hb,hW,WX.refl _ _ _,Gw.refl o,by rw[show eN []=false from rfl,Bool.or_false]⟩
theorem Wn.below (h:Wn B z W w v o f T C w1 v1 o1 f1) (hb:Below w1.heap.size w1 w2):Wn B z W w v o f T C w2 v1 o1 f1:=⟨ap h.bel hb,h.wr.below hb,h.wx.trans (WX.below hb),h.gw,h.ff⟩
theorem Wn.sub (h:Wn B z W w v o f T C w1 v1 o1 f1) (hz:W.heap.size≤z) (hp:uQ B z w1 v1 o1 t f1 c w2):∃v2 o2 f2,Wn B z W w v o f (T++t) (C+c) w2 v2 o2 f2∧WX z w1 w2 v1 v2:=by
 obtain⟨v2,o2,h1,h2,h3⟩:=hp;exact⟨v2,o2,_,⟨WX.bel h.bel h.wr hz h1,h2,h.wx.trans h1,h.gw.trans h3,by rw[h.ff,Eh,Bool.or_assoc]⟩,h1⟩
theorem Wn.done (h:Wn B z W w v o f T C w1 v1 o1 f1) (e:T=t) (hc:C≤c):uQ B z w v o t f c w1:=by
 subst e;exact⟨v1,o1,h.wx,by rw[←h.ff];exact h.wr,h.gw.more hc⟩
theorem Wn.len (h:Wn B z W w v o f T C w1 v1 o1 f1) {n:Nat} (hC:max o.length 140000+C≤n):o1.length≤n:=bJ h.gw.most hC
theorem Wn.len2 (h:Wn B z W w v o f T C w1 v1 o1 f1) {d n:Nat} (hC:max o.length 140000+(C+d)≤n):max o1.length 140000+d≤n:=by have:=h.gw.most;omega
theorem Wn.put (h:Wn B z W w v o f T C w1 v1 o1 f1) (hE:EnvW W) (hz:W.heap.size≤z) (hC:max o.length 140000+C≤10000000) (l:List ByteArray) (hl:l.length≤11) (hs:∀t ∈ l,t.size≤200000) (c:Nat) (hc:(bN l).length≤c):
  Calls prog 42 #[.pointer (some ⟨z,0,none⟩),.slice (some ⟨w1.heap.size,0,none⟩) l.length l.length] (w1.alloc (.cells (l.map Value.string).toArray 9)) fun e w'=>e=.returned (.tuple #[])∧∃v2 o2 f2,Wn B z W w v o f (T++bN l) (C+c) w' v2 o2 f2∧WX z w1 w' v1 v2:=
 (F2 hE h.bel hz h.wr l hl hs (h.len hC) rfl).mono fun _ _ k=>⟨k.1,h.sub hz (k.2.st.cast rfl hc)⟩
theorem WX.keep {n:Nat} {cs:Array Value} {ty:TypeId} (hW:WrI B z w1 v1 o1 f1) (hx:w1.heap[n]? =some (.cells cs ty (0,0))) (ht:ty≠5) (hn:n≠z) {v2:Value} (k:WX z w1 w2 v1 v2):w2.heap[n]? =some (.cells cs ty (0,0)):=by
 refine(k.block n (bC.1 hx).1 hn fun e=> ?_).trans hx
 rcases hW.row.2 with ⟨rfl, -⟩ | ⟨g,cap,cur,rfl, -,hg, -⟩
 ·cases e
 ·have e:n=g:=by injection e
  subst e;rw[hx] at hg;injection hg with hg
  injection hg with _ hg _
  exact ht hg
end
def sP (T:PT):Prop:=∀(W w:World) (B z:Nat) (v:Value) (o:List UInt8) (f:Bool) (lv:Int),EnvW W→T.In W→Below W.heap.size W w→W.heap.size≤z→WrI B z w v o f→T.badX=0→max o.length 140000+40 * T.cnt≤9000000→
 Calls prog 43 #[.pointer (some ⟨z,0,none⟩),pv T,.int .i64 lv] w fun e w'=>iv B z w v o (ar (T.atl lv)) f (40 * T.cnt) e w'
def rC (T:PT):Prop:=∀(W w:World) (B z:Nat) (v:Value) (o:List UInt8) (f:Bool),EnvW W→T.In W→Below W.heap.size W w→W.heap.size≤z→WrI B z w v o f→T.badX=0→max o.length 140000+(40 * T.cnt - 2)≤9000000→
 Calls prog 80 #[.pointer (some ⟨z,0,none⟩),pv T] w fun e w'=>iv B z w v o (ar T.exI) f (40 * T.cnt - 2) e w'
theorem nL {W:World} {g:Nat} {a b c d e:Value} {t:TypeId} (h:W.heap[g]? =some (.cells #[a,b,c,d,e] t (0,0))):
  W.cell? ⟨g,0,none⟩=some a∧W.cell? ⟨g,1,none⟩=some b∧W.cell? ⟨g,2,none⟩=some c∧W.cell? ⟨g,3,none⟩=some d∧W.cell? ⟨g,4,none⟩=some e:=by
 refine⟨?_, ?_, ?_, ?_, ?_⟩ <;> rw[eX _ _ _ _ _ _ h] <;> rfl
theorem Fr {T:PT} (hba:rC T):sP T:=by
 intro W w B z v o f lv hE hT hb hz hW aA cM;obtain⟨⟨k1,tG⟩, -⟩:=oz (iV aA).1;obtain⟨K,hK⟩:∃K:Nat,T.k=(K:Int):=⟨T.k.toNat,by omega⟩
 obtain⟨s0,s1,s2,s3,s4⟩:=(hE.shx.later hb) K (by omega) (by omega)
 have ks:(0:Nat) < w.heap.size:=de _ _ s0;have hgl':¬w.heap.size=0:=by omega
 have h1:¬(K:Int) < 0:=by omega
 have h2:(K:Int) < 14:=by omega
 have j1:=T.cnt_pos;have hzl:z < w.heap.size:=(bC.1 hW.blk).1;obtain⟨w1,aL⟩:∃w1,w1=w.alloc (.cells #[.int .i64 (K:Int),.string T.t,.int .i64 T.n,.string T.nm,.slice T.xa T.len T.cap] 24):=⟨_,rfl⟩;have bz:Below w.heap.size w w1:=by rw[aL];exact ba _
 have an:w1.heap[w.heap.size]? =some (.cells #[.int .i64 (K:Int),.string T.t,.int .i64 T.n,.string T.nm,.slice T.xa T.len T.cap] 24 (0,0)):=by rw[aL];exact aw rfl
 have H1:=ab ((Wn.start hb hW).below bz);have bq:=ab an;have bi:Hid (w.alloc (.cells #[.int .i64 (K:Int),.string T.t,.int .i64 T.n,.string T.nm,.slice T.xa T.len T.cap] 24)=w1):=ab (aL.symm);have rl:=ab (fun (w2:World) (v2:Value) (o2:List UInt8) (f2:Bool) h3 h4 h5=>show Calls prog 80 #[.pointer (some ⟨z,0,none⟩),.agg #[.int .i64 (K:Int),.string T.t,.int .i64 T.n,.string T.nm,.slice T.xa T.len T.cap]] w2 fun e w'=>iv B z w2 v2 o2 (ar T.exI) f2 (40 * T.cnt - 2) e w' from by
  have:=hba W w2 B z v2 o2 f2 hE hT h3 hz h4 aA h5;unfold pv at this;rw[hK] at this;exact this)
 have j3:Hid (T.atl lv=inP (decide (bB (K:Int) < lv)) T.exI):=ab (by unfold PT.atl;rw[hK])
 have HZ:=ab (And.intro hE hz);have bY:w.heap.size≠z:=by omega
 unfold pv;rw[hK];generalize bB (K:Int)=L at *;clear hK aA hT hE hb hW bz an aL hba
 by_cases hlv:L < lv
 ·have q:¬lv≤L:=by omega
  have HT:Hid (ar (T.atl lv)=[40]++(ar T.exI++[41])):=ab (by rw[aa j3,eW hlv];show ar (sg 40::(T.exI++[sg 41]))=_;rw[dA,gj];rfl)
  have cf:Hid (Calls prog 42 #[.pointer (some ⟨z,0,none⟩),.slice (some ⟨w1.heap.size,0,none⟩) 1 1] (w1.alloc (.cells #[.string ⟨#[40]⟩] 9)) _):=ab ((aa H1).put (aa HZ).1 (aa HZ).2 (by omega) [ah 40] (by simp) (fun t ht=>by rw[fE] at ht;subst ht;exact(by decide:(1:Nat)≤200000)) 1 (by decide))
  clear hlv j3;obtain⟨c0,c1,c2,c3,c4⟩:=nL (aa bq);have gW:w1.heap.size=w.heap.size+1:=by rw[←aa bi,eu]
  rw[gW] at cf;clear c0 c1 c2 c3 c4 gW;go_enter func43,ntmps43;go_wp2_with fail;rw[aa bi];refine(aa cf).mono ?_;rintro e w2 ⟨rfl,v2,o2,f2,h2,cN⟩;have yU:=cN.keep (aa H1).wr (aa bq) (by decide) bY
  have H2:=ab h2;obtain⟨c0,c1,c2,c3,c4⟩:=nL yU;have aF:=ab (aa rl w2 v2 o2 f2 h2.bel h2.wr (h2.len2 (by omega)))
  clear h2 cN cf H1 yU bq;go_wp2_with fail;refine(aa aF).mono ?_;rintro e w3 ⟨rfl,be⟩;obtain⟨v3,o3,f3,h3, -⟩:=(aa H2).sub (aa HZ).2 be;have ig:Hid (Calls prog 42 #[.pointer (some ⟨z,0,none⟩),.slice (some ⟨w3.heap.size,0,none⟩) 1 1] (w3.alloc (.cells #[.string ⟨#[41]⟩] 9)) _):=ab (h3.put (aa HZ).1 (aa HZ).2 (by omega) [ah 41] (by simp) (fun t ht=>by rw[fE] at ht;subst ht;exact(by decide:(1:Nat)≤200000)) 1 (by decide))
  clear be h3 aF H2 c0 c1 c2 c3 c4;go_wp2_with fail;refine(aa ig).mono ?_;rintro e w4 ⟨rfl,v4,o4,f4,h4, -⟩;have HF:=ab (h4.done (t:=ar (T.atl lv)) (c:=40 * T.cnt) (by rw[aa HT,fJ,fJ];show []++[40]++ar T.exI++[41]=_;simp) (by omega))
  go_wp2_with fail;go_end0;exact⟨rfl,aa HF⟩
 ·have q:lv≤L:=by omega
  have HT:Hid (ar (T.atl lv)=ar T.exI):=ab (by rw[aa j3,dh hlv];rfl)
  clear hlv j3;have bf:=ab (aa rl w1 v o f (aa H1).bel (aa H1).wr (by omega))
  go_enter func43,ntmps43;go_wp2_with fail;rw[aa bi];refine(aa bf).mono ?_;rintro e w2 ⟨rfl,be⟩;obtain⟨v3,o3,f3,h3, -⟩:=(aa H1).sub (aa HZ).2 be;have HF:=ab (h3.done (t:=ar (T.atl lv)) (c:=40 * T.cnt) (by rw[aa HT];rfl) (by omega))
  clear be h3;go_wp2_with fail;go_end0;exact⟨rfl,aa HF⟩
open Go.RowKit
theorem fh (t:ByteArray):t.data.toList.length=t.size:=by simp
theorem LR (n:Int) (h0: -9223372036854775808≤n) (h1:n≤9223372036854775807):(Lib.itoa n).length≤20:=by
 have hk:∀k u:Nat,1≤k→u < 10 ^ k→(Lib.decDigits u).length≤k:=by
  intro k
  induction k with
  | zero=>intro u h;omega
  | succ k ih=>
   intro u _ h;rw[Lib.decDigits]
   by_cases q:u < 10
   ·rw[dif_pos q];show 1≤k+1;omega
   ·rw[dif_neg q,bg,List.length_singleton]
    have h2:u / 10 < 10 ^ k:=by rw[Nat.pow_succ] at h;omega
    by_cases k0:k=0
    ·subst k0
     simp only[Nat.pow_zero] at h2;omega
    ·have:=ih (u / 10) (by omega) h2;omega
 have hd:∀u:Nat,u≤9223372036854775808→(Lib.decDigits u).length≤19:=fun u hu=>hk 19 u (by decide) (by omega)
 unfold Lib.itoa;split
 ·rw[List.length_cons];have:=hd n.natAbs (by omega);omega
 ·have:=hd n.toNat (by omega);omega
theorem BW {T:PT} {i:Nat} (h:i < T.len):(T.kid i).cnt+1≤T.cnt:=by
 rw[T.cnt_eq];have:∀n,i < n→(T.kid i).cnt≤eU (fun i=>(T.kid i).cnt) n:=by
  intro n
  induction n with
  | zero=>intro h;omega
  | succ n ih=>
   intro h;rw[eU]
   by_cases e:i=n
   ·subst e;omega
   ·have:=ih (by omega);omega
 have:=this T.len h;omega
theorem uy {w:World} (h:gP w) (K:Nat) (k:Int) (hk:k=(K:Int)) (h1:1≤K) (h2:K≤13):w.cell? ⟨0,K * 5,none⟩=some (.string (cL k))∧w.cell? ⟨0,K * 5+1,none⟩=some (.int .i64 (bB k))∧w.cell? ⟨0,K * 5+2,none⟩=some (.bool (bW k))∧w.cell? ⟨0,K * 5+3,none⟩=some (.int .i64 (bG k))∧w.cell? ⟨0,K * 5+4,none⟩=some (.int .i64 (bF k)):=by
 subst hk;exact h K h1 h2
theorem bare_1 {T:PT} (hk:T.k=1) (ht:T.t.size≤65536):rC T:=by
 intro W w B z v o f hE hT hb hz hW aA cM;obtain⟨s0,s1,s2,s3,s4⟩:=uy (hE.shx.later hb) 1 1 rfl (by decide) (by decide)
 have ks:(0:Nat) < w.heap.size:=de _ _ s0;have hgl':¬w.heap.size=0:=by omega
 have qE:¬w.heap.size+1=0:=by omega
 have j1:=T.cnt_pos;have hzl:z < w.heap.size:=(bC.1 hW.blk).1;have bY:w.heap.size≠z:=by omega
 have m9:w.heap.size+1≠z:=by omega
 obtain⟨w1,aL⟩:∃w1,w1=(w.alloc (.cells #[.int .i64 1,.string T.t,.int .i64 T.n,.string T.nm,.slice T.xa T.len T.cap] 24)).alloc (.cells #[.string (cL 1),.int .i64 (bB 1),.bool (bW 1),.int .i64 (bG 1),.int .i64 (bF 1)] 128):=⟨_,rfl⟩;have bz:Below w.heap.size w w1:=by rw[aL];exact(ba _).alloc (by simp) _
 have an:w1.heap[w.heap.size]? =some (.cells #[.int .i64 1,.string T.t,.int .i64 T.n,.string T.nm,.slice T.xa T.len T.cap] 24 (0,0)):=by rw[aL];exact bL (by simp) (aw rfl)
 have fN:w1.heap[w.heap.size+1]? =some (.cells #[.string (cL 1),.int .i64 (bB 1),.bool (bW 1),.int .i64 (bG 1),.int .i64 (bF 1)] 128 (0,0)):=by rw[aL];exact aw (by simp)
 have H1:=ab ((Wn.start hb hW).below bz);have bq:=ab an;have lS:=ab fN;have bP:Hid (w1.heap.size=w.heap.size+1+1):=ab (by rw[aL];simp)
 have bi:Hid ((w.alloc (.cells #[.int .i64 1,.string T.t,.int .i64 T.n,.string T.nm,.slice T.xa T.len T.cap] 24)).alloc (.cells #[.string (cL 1),.int .i64 (bB 1),.bool (bW 1),.int .i64 (bG 1),.int .i64 (bF 1)] 128)=w1):=ab (aL.symm);have HZ:=ab (And.intro hE hz);have HT:=ab hT;unfold pv;rw[hk];have HI:Hid (ar T.exI=eC T.t.data.toList):=ab (by rw[T.exI_eq,hk];exact k9 _)
 have HQ:=ab (I1 T.t hE (aa H1).bel hz (aa H1).wr ht (by omega))
 clear hk aA hT hE hb hW bz an fN aL;generalize cL 1=sgx at *;generalize bB 1=lvx at *;generalize bW 1=nmx at *;generalize bG 1=lsx at *;generalize bF 1=msx at *;go_enter func80,ntmps80;go_wp2_with fail;rw[aa bi];refine(aa HQ).mono ?_;rintro e w2 ⟨rfl,be⟩;obtain⟨v3,o3,f3,h3, -⟩:=(aa H1).sub (aa HZ).2 be;have HF:=ab (h3.done (t:=ar T.exI) (c:=40 * T.cnt - 2) (by rw[aa HI];rfl) (by omega))
 clear be h3;go_wp2_with fail;go_end0;exact⟨rfl,aa HF⟩
theorem bare_2 {T:PT} (hk:T.k=2):rC T:=by
 intro W w B z v o f hE hT hb hz hW aA cM;obtain⟨s0,s1,s2,s3,s4⟩:=uy (hE.shx.later hb) 2 2 rfl (by decide) (by decide)
 have ks:(0:Nat) < w.heap.size:=de _ _ s0;have hgl':¬w.heap.size=0:=by omega
 have qE:¬w.heap.size+1=0:=by omega
 have j1:=T.cnt_pos;have hzl:z < w.heap.size:=(bC.1 hW.blk).1;have bY:w.heap.size≠z:=by omega
 have m9:w.heap.size+1≠z:=by omega
 obtain⟨w1,aL⟩:∃w1,w1=(w.alloc (.cells #[.int .i64 2,.string T.t,.int .i64 T.n,.string T.nm,.slice T.xa T.len T.cap] 24)).alloc (.cells #[.string (cL 2),.int .i64 (bB 2),.bool (bW 2),.int .i64 (bG 2),.int .i64 (bF 2)] 128):=⟨_,rfl⟩;have bz:Below w.heap.size w w1:=by rw[aL];exact(ba _).alloc (by simp) _
 have an:w1.heap[w.heap.size]? =some (.cells #[.int .i64 2,.string T.t,.int .i64 T.n,.string T.nm,.slice T.xa T.len T.cap] 24 (0,0)):=by rw[aL];exact bL (by simp) (aw rfl)
 have fN:w1.heap[w.heap.size+1]? =some (.cells #[.string (cL 2),.int .i64 (bB 2),.bool (bW 2),.int .i64 (bG 2),.int .i64 (bF 2)] 128 (0,0)):=by rw[aL];exact aw (by simp)
 have H1:=ab ((Wn.start hb hW).below bz);have bq:=ab an;have lS:=ab fN;have bP:Hid (w1.heap.size=w.heap.size+1+1):=ab (by rw[aL];simp)
 have bi:Hid ((w.alloc (.cells #[.int .i64 2,.string T.t,.int .i64 T.n,.string T.nm,.slice T.xa T.len T.cap] 24)).alloc (.cells #[.string (cL 2),.int .i64 (bB 2),.bool (bW 2),.int .i64 (bG 2),.int .i64 (bF 2)] 128)=w1):=ab (aL.symm);have HZ:=ab (And.intro hE hz);have HT:=ab hT;unfold pv;rw[hk];have HI:Hid (ar T.exI=Lib.itoa T.n):=ab (by rw[T.exI_eq,hk];exact k9 _)
 have hnr:=hT.num;have HFI:=ab (fun (W1:World) (h:Below W.heap.size W W1)=>show Calls prog 127 #[.int .i64 T.n,.int .i64 10] W1 fun e w'=>e=.returned (.string ⟨(Lib.itoa T.n).toArray⟩)∧Below W1.heap.size W1 w' from (Tryz.strconv_FormatInt_10 T.n hnr.1 hnr.2 W1 (hE.pow W1 h)).mono fun e w' q=>by
  obtain⟨h1,k,os,rfl⟩:=q;exact⟨h1,Lib.below_grow W1.heap.size W1 (ax _) k os⟩)
 have hil:=LR T.n hnr.1 hnr.2;obtain⟨it,hit⟩:∃it:ByteArray,it=⟨(Lib.itoa T.n).toArray⟩:=⟨_,rfl⟩;have vi:it.size≤20:=by rw[hit];show (Lib.itoa T.n).toArray.size≤20;rw[wo];exact hil
 have HIT:Hid (it.data.toList=Lib.itoa T.n):=ab (by rw[hit])
 rw[←hit] at HFI;clear hk aA hT hE hb hW bz an fN aL;clear hnr hil hit;generalize cL 2=sgx at *;generalize bB 2=lvx at *;generalize bW 2=nmx at *;generalize bG 2=lsx at *;generalize bF 2=msx at *;go_enter func80,ntmps80;go_wp2_with fail;rw[aa bi];refine(aa HFI w1 (aa H1).bel).mono ?_;rintro e w2 ⟨rfl,hb2⟩;have H2:=ab ((aa H1).below hb2);clear hb2 H1 HFI;have dW:Hid (Calls prog 42 #[.pointer (some ⟨z,0,none⟩),.slice (some ⟨w2.heap.size,0,none⟩) 1 1] (w2.alloc (.cells #[.string it] 9)) _):=ab ((aa H2).put (aa HZ).1 (aa HZ).2 (by omega) [it] (by simp) (fun t ht=>by simp only[dU,ek,fL] at ht;subst ht;omega) 20 (by show (bN [it]).length≤20;unfold bN;simp only[ia,iQ,bg,List.length_nil,fh];omega))
 go_wp2_with fail;refine(aa dW).mono ?_;rintro e w3 ⟨rfl,v3,o3,f3,h3,dp⟩;have H3:=ab h3;clear h3 dp dW H2;have HF:=ab ((aa H3).done (t:=ar T.exI) (c:=40 * T.cnt - 2) (by rw[aa HI];rw[fJ,aa HIT];rfl) (by omega))
 go_wp2_with fail;go_end0;exact⟨rfl,aa HF⟩
theorem bare_3 {T:PT} (hk:T.k=3) (dq:bp T.nm=true):rC T:=by
 intro W w B z v o f hE hT hb hz hW aA cM;obtain⟨s0,s1,s2,s3,s4⟩:=uy (hE.shx.later hb) 3 3 rfl (by decide) (by decide)
 have ks:(0:Nat) < w.heap.size:=de _ _ s0;have hgl':¬w.heap.size=0:=by omega
 have qE:¬w.heap.size+1=0:=by omega
 have j1:=T.cnt_pos;have hzl:z < w.heap.size:=(bC.1 hW.blk).1;have bY:w.heap.size≠z:=by omega
 have m9:w.heap.size+1≠z:=by omega
 obtain⟨w1,aL⟩:∃w1,w1=(w.alloc (.cells #[.int .i64 3,.string T.t,.int .i64 T.n,.string T.nm,.slice T.xa T.len T.cap] 24)).alloc (.cells #[.string (cL 3),.int .i64 (bB 3),.bool (bW 3),.int .i64 (bG 3),.int .i64 (bF 3)] 128):=⟨_,rfl⟩;have bz:Below w.heap.size w w1:=by rw[aL];exact(ba _).alloc (by simp) _
 have an:w1.heap[w.heap.size]? =some (.cells #[.int .i64 3,.string T.t,.int .i64 T.n,.string T.nm,.slice T.xa T.len T.cap] 24 (0,0)):=by rw[aL];exact bL (by simp) (aw rfl)
 have fN:w1.heap[w.heap.size+1]? =some (.cells #[.string (cL 3),.int .i64 (bB 3),.bool (bW 3),.int .i64 (bG 3),.int .i64 (bF 3)] 128 (0,0)):=by rw[aL];exact aw (by simp)
 have H1:=ab ((Wn.start hb hW).below bz);have bq:=ab an;have lS:=ab fN;have bP:Hid (w1.heap.size=w.heap.size+1+1):=ab (by rw[aL];simp)
 have bi:Hid ((w.alloc (.cells #[.int .i64 3,.string T.t,.int .i64 T.n,.string T.nm,.slice T.xa T.len T.cap] 24)).alloc (.cells #[.string (cL 3),.int .i64 (bB 3),.bool (bW 3),.int .i64 (bG 3),.int .i64 (bF 3)] 128)=w1):=ab (aL.symm);have HZ:=ab (And.intro hE hz);have HT:=ab hT;unfold pv;rw[hk];have HI:Hid (ar T.exI=T.nm.data.toList):=ab (by rw[T.exI_eq,hk];exact k9 _)
 have hns:=(ms dq).2.1;clear hk aA hT hE hb hW bz an fN aL;generalize cL 3=sgx at *;generalize bB 3=lvx at *;generalize bW 3=nmx at *;generalize bG 3=lsx at *;generalize bF 3=msx at *;have cf:Hid (Calls prog 42 #[.pointer (some ⟨z,0,none⟩),.slice (some ⟨w1.heap.size,0,none⟩) 1 1] (w1.alloc (.cells #[.string T.nm] 9)) _):=ab ((aa H1).put (aa HZ).1 (aa HZ).2 (by omega) [T.nm] (by simp) (fun t ht=>by simp only[dU,ek,fL] at ht;subst ht;omega) 16 (by show (bN [T.nm]).length≤16;unfold bN;simp only[ia,iQ,bg,List.length_nil,fh];omega))
 rw[aa bP] at cf;go_enter func80,ntmps80;go_wp2_with fail;rw[aa bi];refine(aa cf).mono ?_;rintro e w2 ⟨rfl,v2,o2,f2,h2,cN⟩;have H2:=ab h2;clear h2 cN cf H1;have HF:=ab ((aa H2).done (t:=ar T.exI) (c:=40 * T.cnt - 2) (by rw[aa HI];rw[fJ];rfl) (by omega))
 go_wp2_with fail;go_end0;exact⟨rfl,aa HF⟩
theorem bare_4 {T:PT} (hk:T.k=4) (dq:bp T.nm=true) (hl:T.len=1) (lJ:∀i,i < T.len→sP (T.kid i)):rC T:=by
 intro W w B z v o f hE hT hb hz hW aA cM;obtain⟨s0,s1,s2,s3,s4⟩:=uy (hE.shx.later hb) 4 4 rfl (by decide) (by decide)
 have ks:(0:Nat) < w.heap.size:=de _ _ s0;have hgl':¬w.heap.size=0:=by omega
 have qE:¬w.heap.size+1=0:=by omega
 have j1:=T.cnt_pos;have hzl:z < w.heap.size:=(bC.1 hW.blk).1;have bY:w.heap.size≠z:=by omega
 have m9:w.heap.size+1≠z:=by omega
 obtain⟨w1,aL⟩:∃w1,w1=(w.alloc (.cells #[.int .i64 4,.string T.t,.int .i64 T.n,.string T.nm,.slice T.xa T.len T.cap] 24)).alloc (.cells #[.string (cL 4),.int .i64 (bB 4),.bool (bW 4),.int .i64 (bG 4),.int .i64 (bF 4)] 128):=⟨_,rfl⟩;have bz:Below w.heap.size w w1:=by rw[aL];exact(ba _).alloc (by simp) _
 have an:w1.heap[w.heap.size]? =some (.cells #[.int .i64 4,.string T.t,.int .i64 T.n,.string T.nm,.slice T.xa T.len T.cap] 24 (0,0)):=by rw[aL];exact bL (by simp) (aw rfl)
 have fN:w1.heap[w.heap.size+1]? =some (.cells #[.string (cL 4),.int .i64 (bB 4),.bool (bW 4),.int .i64 (bG 4),.int .i64 (bF 4)] 128 (0,0)):=by rw[aL];exact aw (by simp)
 have H1:=ab ((Wn.start hb hW).below bz);have bq:=ab an;have lS:=ab fN;have bP:Hid (w1.heap.size=w.heap.size+1+1):=ab (by rw[aL];simp)
 have bi:Hid ((w.alloc (.cells #[.int .i64 4,.string T.t,.int .i64 T.n,.string T.nm,.slice T.xa T.len T.cap] 24)).alloc (.cells #[.string (cL 4),.int .i64 (bB 4),.bool (bW 4),.int .i64 (bG 4),.int .i64 (bF 4)] 128)=w1):=ab (aL.symm);have HZ:=ab (And.intro hE hz);have HT:=ab hT;unfold pv;rw[hk];have e60:(ah 60).size=1:=rfl;have e62:(ah 62).size=1:=rfl;have HI:Hid (ar T.exI=(T.nm.data.toList++[60])++(ar ((T.kid 0).atl 0)++[62])):=ab (by
  rw[T.exI_eq,hk];show ar (wd T.nm::sg 60::(T.kidI 0 0++[sg 62]))=_;rw[qr (by omega),dA,dA,gj]
  show T.nm.data.toList++([60]++(ar ((T.kid 0).atl 0)++[62]))=_;simp)
 have hns:=(ms dq).2.1;have dM:1+(T.kid 0).cnt≤T.cnt:=by have:=BW (T:=T) (i:=0) (by omega);omega
 obtain⟨q0,nj⟩:∃q,q=T.o+0 * 5:=⟨_,rfl⟩;have hix0:∀w,(Instr.indexAt 22 (.slice T.xa T.len T.cap) (.int .i64 0)).run prog w=.ok (.pointer (some ⟨T.b,q0,none⟩)) w:=fun w=>by rw[nj];exact mu hT (k:=0) (by omega) w
 have vf:=ab (fun (W1:World) (h:Below W.heap.size W W1)=>show W1.cell? ⟨T.b,q0,none⟩=some (.int .i64 (T.kid 0).k)∧W1.cell? ⟨T.b,q0+1,none⟩=some (.string (T.kid 0).t)∧W1.cell? ⟨T.b,q0+2,none⟩=some (.int .i64 (T.kid 0).n)∧W1.cell? ⟨T.b,q0+3,none⟩=some (.string (T.kid 0).nm)∧W1.cell? ⟨T.b,q0+4,none⟩=some (.slice (T.kid 0).xa (T.kid 0).len (T.kid 0).cap) from by rw[nj];exact(PT.In.later h hT).cells (i:=0) (by omega))
 have ve:=ab (fun (lv:Int) (w2:World) (v2:Value) (o2:List UInt8) (f2:Bool) h3 h4 h5=>show Calls prog 43 #[.pointer (some ⟨z,0,none⟩),.agg #[.int .i64 (T.kid 0).k,.string (T.kid 0).t,.int .i64 (T.kid 0).n,.string (T.kid 0).nm,.slice (T.kid 0).xa (T.kid 0).len (T.kid 0).cap],.int .i64 lv] w2 fun e w'=>iv B z w2 v2 o2 (ar ((T.kid 0).atl lv)) f2 (40 * (T.kid 0).cnt) e w' from lJ 0 (by omega) W w2 B z v2 o2 f2 lv hE (hT.kids (by omega)) h3 hz h4 ((iV aA).2 0 (by omega)) h5)
 clear hk aA hT hE hb hW bz an fN aL lJ hl;clear nj;generalize cL 4=sgx at *;generalize bB 4=lvx at *;generalize bW 4=nmx at *;generalize bG 4=lsx at *;generalize bF 4=msx at *;have cf:Hid (Calls prog 42 #[.pointer (some ⟨z,0,none⟩),.slice (some ⟨w1.heap.size,0,none⟩) 2 2] (w1.alloc (.cells #[.string T.nm,.string ⟨#[60]⟩] 9)) _):=ab ((aa H1).put (aa HZ).1 (aa HZ).2 (by omega) [T.nm,ah 60] (by simp) (fun t ht=>by simp only[dU,ek,fL] at ht;rcases ht with rfl | rfl <;> omega) 17 (by show (bN [T.nm,ah 60]).length≤17;unfold bN;simp only[ia,iQ,bg,List.length_nil,fh];omega))
 rw[aa bP] at cf;go_enter func80,ntmps80;go_wp2_with fail;rw[aa bi];refine(aa cf).mono ?_;rintro e w2 ⟨rfl,v2,o2,f2,h2,cN⟩;have cR:=ab (cN.keep (aa H1).wr (aa bq) (by decide) bY)
 have tC:=ab (cN.keep (aa H1).wr (aa lS) (by decide) m9)
 have H2:=ab h2;clear h2 cN cf H1;obtain⟨c0,c1,c2,c3,c4⟩:=nL (aa cR);obtain⟨k0,k1,k2,k3,k4⟩:=aa vf w2 (aa H2).bel;have eB:=ab (aa ve 0 w2 v2 o2 f2 (aa H2).bel (aa H2).wr ((aa H2).len2 (by omega)))
 go_wp2_with fail;refine(aa eB).mono ?_;rintro e w3 ⟨rfl,be⟩;obtain⟨v3,o3,f3,h3, -⟩:=(aa H2).sub (aa HZ).2 be;have H3:=ab h3;clear be h3 eB H2 c0 c1 c2 c3 c4 k0 k1 k2 k3 k4 ve vf;have ig:Hid (Calls prog 42 #[.pointer (some ⟨z,0,none⟩),.slice (some ⟨w3.heap.size,0,none⟩) 1 1] (w3.alloc (.cells #[.string ⟨#[62]⟩] 9)) _):=ab ((aa H3).put (aa HZ).1 (aa HZ).2 (by omega) [ah 62] (by simp) (fun t ht=>by simp only[dU,ek,fL] at ht;subst ht;omega) 1 (by show (bN [ah 62]).length≤1;unfold bN;simp only[ia,iQ,bg,List.length_nil,fh];omega))
 go_wp2_with fail;refine(aa ig).mono ?_;rintro e w4 ⟨rfl,v4,o4,f4,h4,cy⟩;have H4:=ab h4;clear h4 cy ig H3;have HF:=ab ((aa H4).done (t:=ar T.exI) (c:=40 * T.cnt - 2) (by rw[aa HI];rw[fJ,kE,fJ];show []++(T.nm.data.toList++[60])++ar ((T.kid 0).atl 0)++[62]=_;simp) (by omega))
 go_wp2_with fail;go_end0;exact⟨rfl,aa HF⟩
open Go.RowKit
theorem bare_5 {T:PT} (hk:T.k=5) (hl:T.len=1) (lJ:∀i,i < T.len→sP (T.kid i)):rC T:=by
 intro W w B z v o f hE hT hb hz hW aA cM;obtain⟨s0,s1,s2,s3,s4⟩:=uy (hE.shx.later hb) 5 5 rfl (by decide) (by decide)
 have ks:(0:Nat) < w.heap.size:=de _ _ s0;have hgl':¬w.heap.size=0:=by omega
 have qE:¬w.heap.size+1=0:=by omega
 have j1:=T.cnt_pos;have hzl:z < w.heap.size:=(bC.1 hW.blk).1;have bY:w.heap.size≠z:=by omega
 have m9:w.heap.size+1≠z:=by omega
 obtain⟨w1,aL⟩:∃w1,w1=(w.alloc (.cells #[.int .i64 5,.string T.t,.int .i64 T.n,.string T.nm,.slice T.xa T.len T.cap] 24)).alloc (.cells #[.string (cL 5),.int .i64 (bB 5),.bool (bW 5),.int .i64 (bG 5),.int .i64 (bF 5)] 128):=⟨_,rfl⟩;have bz:Below w.heap.size w w1:=by rw[aL];exact(ba _).alloc (by simp) _
 have an:w1.heap[w.heap.size]? =some (.cells #[.int .i64 5,.string T.t,.int .i64 T.n,.string T.nm,.slice T.xa T.len T.cap] 24 (0,0)):=by rw[aL];exact bL (by simp) (aw rfl)
 have fN:w1.heap[w.heap.size+1]? =some (.cells #[.string (cL 5),.int .i64 (bB 5),.bool (bW 5),.int .i64 (bG 5),.int .i64 (bF 5)] 128 (0,0)):=by rw[aL];exact aw (by simp)
 have H1:=ab ((Wn.start hb hW).below bz);have bq:=ab an;have lS:=ab fN;have bP:Hid (w1.heap.size=w.heap.size+1+1):=ab (by rw[aL];simp)
 have bi:Hid ((w.alloc (.cells #[.int .i64 5,.string T.t,.int .i64 T.n,.string T.nm,.slice T.xa T.len T.cap] 24)).alloc (.cells #[.string (cL 5),.int .i64 (bB 5),.bool (bW 5),.int .i64 (bG 5),.int .i64 (bF 5)] 128)=w1):=ab (aL.symm);have HZ:=ab (And.intro hE hz);have HT:=ab hT;unfold pv;rw[hk];have e0:(ah 36).size=1:=rfl;have HI:Hid (ar T.exI=[36]++ar ((T.kid 0).atl 5)):=ab (by
  rw[T.exI_eq,hk];show ar (sg 36::T.kidI 5 0)=_;rw[qr (by omega),dA];rfl)
 have dM:=BW (T:=T) (i:=0) (by omega)
 obtain⟨q0,nj⟩:∃q,q=T.o+0 * 5:=⟨_,rfl⟩;have hix0:∀w,(Instr.indexAt 22 (.slice T.xa T.len T.cap) (.int .i64 0)).run prog w=.ok (.pointer (some ⟨T.b,q0,none⟩)) w:=fun w=>by rw[nj];exact mu hT (k:=0) (by omega) w
 have vf:=ab (fun (W1:World) (h:Below W.heap.size W W1)=>show W1.cell? ⟨T.b,q0,none⟩=some (.int .i64 (T.kid 0).k)∧W1.cell? ⟨T.b,q0+1,none⟩=some (.string (T.kid 0).t)∧W1.cell? ⟨T.b,q0+2,none⟩=some (.int .i64 (T.kid 0).n)∧W1.cell? ⟨T.b,q0+3,none⟩=some (.string (T.kid 0).nm)∧W1.cell? ⟨T.b,q0+4,none⟩=some (.slice (T.kid 0).xa (T.kid 0).len (T.kid 0).cap) from by rw[nj];exact(PT.In.later h hT).cells (i:=0) (by omega))
 have ve:=ab (fun (lv:Int) (w2:World) (v2:Value) (o2:List UInt8) (f2:Bool) h3 h4 h5=>show Calls prog 43 #[.pointer (some ⟨z,0,none⟩),.agg #[.int .i64 (T.kid 0).k,.string (T.kid 0).t,.int .i64 (T.kid 0).n,.string (T.kid 0).nm,.slice (T.kid 0).xa (T.kid 0).len (T.kid 0).cap],.int .i64 lv] w2 fun e w'=>iv B z w2 v2 o2 (ar ((T.kid 0).atl lv)) f2 (40 * (T.kid 0).cnt) e w' from lJ 0 (by omega) W w2 B z v2 o2 f2 lv hE (hT.kids (by omega)) h3 hz h4 ((iV aA).2 0 (by omega)) h5)
 clear hk aA hT hE hb hW bz an fN aL lJ hl;clear nj;generalize wu:cL 5=sgx at *;have wu:sgx=⟨#[36]⟩:=wu.symm.trans rfl;subst wu;generalize hlvx:bB 5=lvx at *;have ua:Hid (lvx=5):=ab (hlvx.symm.trans rfl);clear hlvx;generalize bW 5=nmx at *;generalize bG 5=lsx at *;generalize bF 5=msx at *;have cf:Hid (Calls prog 42 #[.pointer (some ⟨z,0,none⟩),.slice (some ⟨w1.heap.size,0,none⟩) 1 1] (w1.alloc (.cells #[.string ⟨#[36]⟩] 9)) _):=ab ((aa H1).put (aa HZ).1 (aa HZ).2 (by omega) [ah 36] (by simp) (fun t ht=>by simp only[dU,ek,fL] at ht;subst ht;omega) 1 (by show (bN [ah 36]).length≤1;unfold bN;simp only[ia,iQ,bg,List.length_nil,fh];omega))
 rw[aa bP] at cf;go_enter func80,ntmps80;go_wp2_with fail;rw[aa bi];refine(aa cf).mono ?_;rintro e w2 ⟨rfl,v2,o2,f2,h2,cN⟩;have cR:=ab (cN.keep (aa H1).wr (aa bq) (by decide) bY)
 have tC:=ab (cN.keep (aa H1).wr (aa lS) (by decide) m9)
 have H2:=ab h2;clear h2 cN cf H1;rw[show ((5:Int))=lvx from (aa ua).symm] at HI;go_wp2_with fail;obtain⟨x0,x1,x2,x3,x4⟩:=nL (aa cR);obtain⟨y0,y1,y2,y3,y4⟩:=nL (aa tC);obtain⟨k0,k1,k2,k3,k4⟩:=aa vf w2 (aa H2).bel;obtain⟨S0,aO⟩:∃S0:World→Prop,S0=fun W1=>W1.cell? ⟨w.heap.size,4,none⟩=some (.slice T.xa T.len T.cap)∧W1.cell? ⟨w.heap.size+1,1,none⟩=some (.int .i64 lvx)∧W1.cell? ⟨T.b,q0,none⟩=some (.int .i64 (T.kid 0).k)∧W1.cell? ⟨T.b,q0+1,none⟩=some (.string (T.kid 0).t)∧W1.cell? ⟨T.b,q0+2,none⟩=some (.int .i64 (T.kid 0).n)∧W1.cell? ⟨T.b,q0+3,none⟩=some (.string (T.kid 0).nm)∧W1.cell? ⟨T.b,q0+4,none⟩=some (.slice (T.kid 0).xa (T.kid 0).len (T.kid 0).cap):=⟨_,rfl⟩
 have ao:=ab aO;have bw:S0 w2.drew:=by rw[aO];exact⟨x4,y1,k0,k1,k2,k3,k4⟩
 have qW:=(aa H2).below (aW _ _).drew;have eB:=ab (aa ve lvx w2.drew v2 o2 f2 qW.bel qW.wr (qW.len2 (by omega)))
 have ue:=ab qW;clear aO qW x0 x1 x2 x3 x4 y0 y1 y2 y3 y4 k0 k1 k2 k3 k4;refine gZ 7 S0 ?_;intro F;refine aK F 0 ao bw ?_
 (try simp only[aH,aG])
 (try go_frame)
 refine aK F 1 ao bw ?_
 (try simp only[aH,aP,aG])
 (try go_frame)
 refine aK F 2 ao bw ?_
 (try simp only[aH,aP,aG])
 (try go_frame)
 refine aK F 3 ao bw ?_
 (try simp only[aH,aP,aG])
 (try go_frame)
 refine aK F 4 ao bw ?_
 (try simp only[aH,aP,aG])
 (try go_frame)
 refine aK F 5 ao bw ?_
 (try simp only[aH,aP,aG])
 (try go_frame)
 refine aK F 6 ao bw ?_
 (try simp only[aH,aP,aG])
 (try go_frame)
 refine g5 (by kernel_rfl) rfl (by kernel_rfl) (fun K4 bH=> ?_)
 go_simp;refine(aa eB).mono ?_;rintro e w3 ⟨rfl,be⟩;obtain⟨v3,o3,f3,h3,dp⟩:=(aa ue).sub (aa HZ).2 be;have cY:=ab (dp.keep (aa ue).wr (aa cR) (by decide) bY)
 have AR:=ab (dp.keep (aa ue).wr (aa tC) (by decide) m9)
 have H3:=ab h3;refine bH _ _ ?_
 (try simp only[aH,aP,aG])
 (try go_frame)
 clear bH K4 F bw ao be h3 dp eB ue H2;have HF:=ab ((aa H3).done (t:=ar T.exI) (c:=40 * T.cnt - 2) (by rw[aa HI];rw[fJ];rfl) (by omega))
 go_wp2_with fail;go_end0;exact⟨rfl,aa HF⟩
theorem bare_7 {T:PT} (hk:T.k=7) (hl:T.len=1) (lJ:∀i,i < T.len→sP (T.kid i)):rC T:=by
 intro W w B z v o f hE hT hb hz hW aA cM;obtain⟨s0,s1,s2,s3,s4⟩:=uy (hE.shx.later hb) 7 7 rfl (by decide) (by decide)
 have ks:(0:Nat) < w.heap.size:=de _ _ s0;have hgl':¬w.heap.size=0:=by omega
 have qE:¬w.heap.size+1=0:=by omega
 have j1:=T.cnt_pos;have hzl:z < w.heap.size:=(bC.1 hW.blk).1;have bY:w.heap.size≠z:=by omega
 have m9:w.heap.size+1≠z:=by omega
 obtain⟨w1,aL⟩:∃w1,w1=(w.alloc (.cells #[.int .i64 7,.string T.t,.int .i64 T.n,.string T.nm,.slice T.xa T.len T.cap] 24)).alloc (.cells #[.string (cL 7),.int .i64 (bB 7),.bool (bW 7),.int .i64 (bG 7),.int .i64 (bF 7)] 128):=⟨_,rfl⟩;have bz:Below w.heap.size w w1:=by rw[aL];exact(ba _).alloc (by simp) _
 have an:w1.heap[w.heap.size]? =some (.cells #[.int .i64 7,.string T.t,.int .i64 T.n,.string T.nm,.slice T.xa T.len T.cap] 24 (0,0)):=by rw[aL];exact bL (by simp) (aw rfl)
 have fN:w1.heap[w.heap.size+1]? =some (.cells #[.string (cL 7),.int .i64 (bB 7),.bool (bW 7),.int .i64 (bG 7),.int .i64 (bF 7)] 128 (0,0)):=by rw[aL];exact aw (by simp)
 have H1:=ab ((Wn.start hb hW).below bz);have bq:=ab an;have lS:=ab fN;have bP:Hid (w1.heap.size=w.heap.size+1+1):=ab (by rw[aL];simp)
 have bi:Hid ((w.alloc (.cells #[.int .i64 7,.string T.t,.int .i64 T.n,.string T.nm,.slice T.xa T.len T.cap] 24)).alloc (.cells #[.string (cL 7),.int .i64 (bB 7),.bool (bW 7),.int .i64 (bG 7),.int .i64 (bF 7)] 128)=w1):=ab (aL.symm);have HZ:=ab (And.intro hE hz);have HT:=ab hT;unfold pv;rw[hk];have e0:(ah 45).size=1:=rfl;have HI:Hid (ar T.exI=[45]++ar ((T.kid 0).atl 4)):=ab (by
  rw[T.exI_eq,hk];show ar (sg 45::T.kidI 4 0)=_;rw[qr (by omega),dA];rfl)
 have dM:=BW (T:=T) (i:=0) (by omega)
 obtain⟨q0,nj⟩:∃q,q=T.o+0 * 5:=⟨_,rfl⟩;have hix0:∀w,(Instr.indexAt 22 (.slice T.xa T.len T.cap) (.int .i64 0)).run prog w=.ok (.pointer (some ⟨T.b,q0,none⟩)) w:=fun w=>by rw[nj];exact mu hT (k:=0) (by omega) w
 have vf:=ab (fun (W1:World) (h:Below W.heap.size W W1)=>show W1.cell? ⟨T.b,q0,none⟩=some (.int .i64 (T.kid 0).k)∧W1.cell? ⟨T.b,q0+1,none⟩=some (.string (T.kid 0).t)∧W1.cell? ⟨T.b,q0+2,none⟩=some (.int .i64 (T.kid 0).n)∧W1.cell? ⟨T.b,q0+3,none⟩=some (.string (T.kid 0).nm)∧W1.cell? ⟨T.b,q0+4,none⟩=some (.slice (T.kid 0).xa (T.kid 0).len (T.kid 0).cap) from by rw[nj];exact(PT.In.later h hT).cells (i:=0) (by omega))
 have ve:=ab (fun (lv:Int) (w2:World) (v2:Value) (o2:List UInt8) (f2:Bool) h3 h4 h5=>show Calls prog 43 #[.pointer (some ⟨z,0,none⟩),.agg #[.int .i64 (T.kid 0).k,.string (T.kid 0).t,.int .i64 (T.kid 0).n,.string (T.kid 0).nm,.slice (T.kid 0).xa (T.kid 0).len (T.kid 0).cap],.int .i64 lv] w2 fun e w'=>iv B z w2 v2 o2 (ar ((T.kid 0).atl lv)) f2 (40 * (T.kid 0).cnt) e w' from lJ 0 (by omega) W w2 B z v2 o2 f2 lv hE (hT.kids (by omega)) h3 hz h4 ((iV aA).2 0 (by omega)) h5)
 clear hk aA hT hE hb hW bz an fN aL lJ hl;clear nj;generalize wu:cL 7=sgx at *;have wu:sgx=⟨#[45]⟩:=wu.symm.trans rfl;subst wu;generalize hlvx:bB 7=lvx at *;have ua:Hid (lvx=4):=ab (hlvx.symm.trans rfl);clear hlvx;generalize bW 7=nmx at *;generalize bG 7=lsx at *;generalize bF 7=msx at *;have cf:Hid (Calls prog 42 #[.pointer (some ⟨z,0,none⟩),.slice (some ⟨w1.heap.size,0,none⟩) 1 1] (w1.alloc (.cells #[.string ⟨#[45]⟩] 9)) _):=ab ((aa H1).put (aa HZ).1 (aa HZ).2 (by omega) [ah 45] (by simp) (fun t ht=>by simp only[dU,ek,fL] at ht;subst ht;omega) 1 (by show (bN [ah 45]).length≤1;unfold bN;simp only[ia,iQ,bg,List.length_nil,fh];omega))
 rw[aa bP] at cf;go_enter func80,ntmps80;go_wp2_with fail;rw[aa bi];refine(aa cf).mono ?_;rintro e w2 ⟨rfl,v2,o2,f2,h2,cN⟩;have cR:=ab (cN.keep (aa H1).wr (aa bq) (by decide) bY)
 have tC:=ab (cN.keep (aa H1).wr (aa lS) (by decide) m9)
 have H2:=ab h2;clear h2 cN cf H1;rw[show ((4:Int))=lvx from (aa ua).symm] at HI;go_wp2_with fail;obtain⟨x0,x1,x2,x3,x4⟩:=nL (aa cR);obtain⟨y0,y1,y2,y3,y4⟩:=nL (aa tC);obtain⟨k0,k1,k2,k3,k4⟩:=aa vf w2 (aa H2).bel;obtain⟨S0,aO⟩:∃S0:World→Prop,S0=fun W1=>W1.cell? ⟨w.heap.size,4,none⟩=some (.slice T.xa T.len T.cap)∧W1.cell? ⟨w.heap.size+1,1,none⟩=some (.int .i64 lvx)∧W1.cell? ⟨T.b,q0,none⟩=some (.int .i64 (T.kid 0).k)∧W1.cell? ⟨T.b,q0+1,none⟩=some (.string (T.kid 0).t)∧W1.cell? ⟨T.b,q0+2,none⟩=some (.int .i64 (T.kid 0).n)∧W1.cell? ⟨T.b,q0+3,none⟩=some (.string (T.kid 0).nm)∧W1.cell? ⟨T.b,q0+4,none⟩=some (.slice (T.kid 0).xa (T.kid 0).len (T.kid 0).cap):=⟨_,rfl⟩
 have ao:=ab aO;have bw:S0 w2.drew:=by rw[aO];exact⟨x4,y1,k0,k1,k2,k3,k4⟩
 have qW:=(aa H2).below (aW _ _).drew;have eB:=ab (aa ve lvx w2.drew v2 o2 f2 qW.bel qW.wr (qW.len2 (by omega)))
 have ue:=ab qW;clear aO qW x0 x1 x2 x3 x4 y0 y1 y2 y3 y4 k0 k1 k2 k3 k4;refine gZ 7 S0 ?_;intro F;refine aK F 0 ao bw ?_
 (try simp only[aH,aG])
 (try go_frame)
 refine aK F 1 ao bw ?_
 (try simp only[aH,aP,aG])
 (try go_frame)
 refine aK F 2 ao bw ?_
 (try simp only[aH,aP,aG])
 (try go_frame)
 refine aK F 3 ao bw ?_
 (try simp only[aH,aP,aG])
 (try go_frame)
 refine aK F 4 ao bw ?_
 (try simp only[aH,aP,aG])
 (try go_frame)
 refine aK F 5 ao bw ?_
 (try simp only[aH,aP,aG])
 (try go_frame)
 refine aK F 6 ao bw ?_
 (try simp only[aH,aP,aG])
 (try go_frame)
 refine g5 (by kernel_rfl) rfl (by kernel_rfl) (fun K4 bH=> ?_)
 go_simp;refine(aa eB).mono ?_;rintro e w3 ⟨rfl,be⟩;obtain⟨v3,o3,f3,h3,dp⟩:=(aa ue).sub (aa HZ).2 be;have cY:=ab (dp.keep (aa ue).wr (aa cR) (by decide) bY)
 have AR:=ab (dp.keep (aa ue).wr (aa tC) (by decide) m9)
 have H3:=ab h3;refine bH _ _ ?_
 (try simp only[aH,aP,aG])
 (try go_frame)
 clear bH K4 F bw ao be h3 dp eB ue H2;have HF:=ab ((aa H3).done (t:=ar T.exI) (c:=40 * T.cnt - 2) (by rw[aa HI];rw[fJ];rfl) (by omega))
 go_wp2_with fail;go_end0;exact⟨rfl,aa HF⟩
open Go.RowKit
theorem MC {k:Int} (h1:8≤k) (h2:k≤13):cL k=ah (lG k)∧1≤bB k∧bB k≤3:=by
 have:k=8∨k=9∨k=10∨k=11∨k=12∨k=13:=by omega
 rcases this with rfl | rfl | rfl | rfl | rfl | rfl <;> exact⟨rfl,by decide,by decide⟩
theorem Mx {T:PT} (h:T.len=2):T.cnt=1+((T.kid 0).cnt+(T.kid 1).cnt):=by
 rw[T.cnt_eq,h];show 1+(0+(T.kid 0).cnt+(T.kid 1).cnt)=_;omega
theorem Mg {T:PT} (h8:8≤T.k) (h13:T.k≤13) (hl:T.len=2) (lJ:∀i,i < T.len→sP (T.kid i)):rC T:=by
 intro W w B z v o f hE hT hb hz hW aA cM;obtain⟨K,hkK⟩:∃K:Nat,T.k=(K:Int):=⟨T.k.toNat,by omega⟩
 obtain⟨s0,s1,s2,s3,s4⟩:=uy (hE.shx.later hb) K (K:Int) rfl (by omega) (by omega)
 have ks:(0:Nat) < w.heap.size:=de _ _ s0;have hgl':¬w.heap.size=0:=by omega
 have qE:¬w.heap.size+1=0:=by omega
 have j1:=T.cnt_pos;have hzl:z < w.heap.size:=(bC.1 hW.blk).1;have bY:w.heap.size≠z:=by omega
 have m9:w.heap.size+1≠z:=by omega
 obtain⟨w1,aL⟩:∃w1,w1=(w.alloc (.cells #[.int .i64 (K:Int),.string T.t,.int .i64 T.n,.string T.nm,.slice T.xa T.len T.cap] 24)).alloc (.cells #[.string (cL (K:Int)),.int .i64 (bB (K:Int)),.bool (bW (K:Int)),.int .i64 (bG (K:Int)),.int .i64 (bF (K:Int))] 128):=⟨_,rfl⟩;have bz:Below w.heap.size w w1:=by rw[aL];exact(ba _).alloc (by simp) _
 have an:w1.heap[w.heap.size]? =some (.cells #[.int .i64 (K:Int),.string T.t,.int .i64 T.n,.string T.nm,.slice T.xa T.len T.cap] 24 (0,0)):=by rw[aL];exact bL (by simp) (aw rfl)
 have fN:w1.heap[w.heap.size+1]? =some (.cells #[.string (cL (K:Int)),.int .i64 (bB (K:Int)),.bool (bW (K:Int)),.int .i64 (bG (K:Int)),.int .i64 (bF (K:Int))] 128 (0,0)):=by rw[aL];exact aw (by simp)
 have H1:=ab ((Wn.start hb hW).below bz);have bq:=ab an;have lS:=ab fN;have bP:Hid (w1.heap.size=w.heap.size+1+1):=ab (by rw[aL];simp)
 have bi:Hid ((w.alloc (.cells #[.int .i64 (K:Int),.string T.t,.int .i64 T.n,.string T.nm,.slice T.xa T.len T.cap] 24)).alloc (.cells #[.string (cL (K:Int)),.int .i64 (bB (K:Int)),.bool (bW (K:Int)),.int .i64 (bG (K:Int)),.int .i64 (bF (K:Int))] 128)=w1):=ab (aL.symm);have HZ:=ab (And.intro hE hz);have HT:=ab hT;unfold pv;rw[hkK];obtain⟨l7,kO,hl3⟩:=MC h8 h13;have HI:Hid (ar T.exI=(ar ((T.kid 0).atl (bB (K:Int)))++(([32]++[lG T.k])++[32]))++ar ((T.kid 1).atl (bB (K:Int)+1))):=ab (by
  rw[zZ h8 hl,gj,dA,dA,dA,hkK];show ar ((T.kid 0).atl (bB (K:Int)))++([32]++([lG (K:Int)]++([32]++ar ((T.kid 1).atl (bB (K:Int)+1)))))=_;simp)
 have j2:=Mx hl;rw[hkK] at l7 kO hl3 h8 h13;have u1:¬(K:Int) < 0:=by omega
 have u2:(K:Int) < 14:=by omega
 have r1:((K:Int)==1)=false:=bn;have r2:((K:Int)==2)=false:=bn;have r3:((K:Int)==3)=false:=bn;have r4:((K:Int)==4)=false:=bn;have r5:((K:Int)==5)=false:=bn;have r6:((K:Int)==6)=false:=bn;have r7:((K:Int)==7)=false:=bn;obtain⟨q0,nj⟩:∃q,q=T.o+0 * 5:=⟨_,rfl⟩;have hix0:∀w,(Instr.indexAt 22 (.slice T.xa T.len T.cap) (.int .i64 0)).run prog w=.ok (.pointer (some ⟨T.b,q0,none⟩)) w:=fun w=>by rw[nj];exact mu hT (k:=0) (by omega) w
 have vf:=ab (fun (W1:World) (h:Below W.heap.size W W1)=>show W1.cell? ⟨T.b,q0,none⟩=some (.int .i64 (T.kid 0).k)∧W1.cell? ⟨T.b,q0+1,none⟩=some (.string (T.kid 0).t)∧W1.cell? ⟨T.b,q0+2,none⟩=some (.int .i64 (T.kid 0).n)∧W1.cell? ⟨T.b,q0+3,none⟩=some (.string (T.kid 0).nm)∧W1.cell? ⟨T.b,q0+4,none⟩=some (.slice (T.kid 0).xa (T.kid 0).len (T.kid 0).cap) from by rw[nj];exact(PT.In.later h hT).cells (i:=0) (by omega))
 have ve:=ab (fun (lv:Int) (w2:World) (v2:Value) (o2:List UInt8) (f2:Bool) h3 h4 h5=>show Calls prog 43 #[.pointer (some ⟨z,0,none⟩),.agg #[.int .i64 (T.kid 0).k,.string (T.kid 0).t,.int .i64 (T.kid 0).n,.string (T.kid 0).nm,.slice (T.kid 0).xa (T.kid 0).len (T.kid 0).cap],.int .i64 lv] w2 fun e w'=>iv B z w2 v2 o2 (ar ((T.kid 0).atl lv)) f2 (40 * (T.kid 0).cnt) e w' from lJ 0 (by omega) W w2 B z v2 o2 f2 lv hE (hT.kids (by omega)) h3 hz h4 ((iV aA).2 0 (by omega)) h5)
 obtain⟨q1,n9⟩:∃q,q=T.o+1 * 5:=⟨_,rfl⟩;have hix1:∀w,(Instr.indexAt 22 (.slice T.xa T.len T.cap) (.int .i64 1)).run prog w=.ok (.pointer (some ⟨T.b,q1,none⟩)) w:=fun w=>by rw[n9];exact mu hT (k:=1) (by omega) w
 have HKC1:=ab (fun (W1:World) (h:Below W.heap.size W W1)=>show W1.cell? ⟨T.b,q1,none⟩=some (.int .i64 (T.kid 1).k)∧W1.cell? ⟨T.b,q1+1,none⟩=some (.string (T.kid 1).t)∧W1.cell? ⟨T.b,q1+2,none⟩=some (.int .i64 (T.kid 1).n)∧W1.cell? ⟨T.b,q1+3,none⟩=some (.string (T.kid 1).nm)∧W1.cell? ⟨T.b,q1+4,none⟩=some (.slice (T.kid 1).xa (T.kid 1).len (T.kid 1).cap) from by rw[n9];exact(PT.In.later h hT).cells (i:=1) (by omega))
 have HKS1:=ab (fun (lv:Int) (w2:World) (v2:Value) (o2:List UInt8) (f2:Bool) h3 h4 h5=>show Calls prog 43 #[.pointer (some ⟨z,0,none⟩),.agg #[.int .i64 (T.kid 1).k,.string (T.kid 1).t,.int .i64 (T.kid 1).n,.string (T.kid 1).nm,.slice (T.kid 1).xa (T.kid 1).len (T.kid 1).cap],.int .i64 lv] w2 fun e w'=>iv B z w2 v2 o2 (ar ((T.kid 1).atl lv)) f2 (40 * (T.kid 1).cnt) e w' from lJ 1 (by omega) W w2 B z v2 o2 f2 lv hE (hT.kids (by omega)) h3 hz h4 ((iV aA).2 1 (by omega)) h5)
 have HSG:Hid ((cL (K:Int)).data.toList=[lG T.k]):=ab (by rw[l7,hkK];rfl)
 have e0:(cL (K:Int)).size=1:=by rw[l7];rfl
 clear l7 h8 h13;clear hkK aA hT hE hb hW bz an fN aL lJ hl;clear nj n9;generalize cL (K:Int)=sgx at *;generalize bB (K:Int)=lvx at *;generalize bW (K:Int)=nmx at *;generalize bG (K:Int)=lsx at *;generalize bF (K:Int)=msx at *;have hwp:IntKind.i64.wrap (lvx+1)=lvx+1:=(IntWalk.i64_left _).trans (IntWalk.wrap64_in _ (by omega))
 go_enter func80,ntmps80;go_wp2_with fail;rw[aa bi];obtain⟨x0,x1,x2,x3,x4⟩:=nL (aa bq);obtain⟨y0,y1,y2,y3,y4⟩:=nL (aa lS);obtain⟨k0,k1,k2,k3,k4⟩:=aa vf w1 (aa H1).bel;obtain⟨S0,aO⟩:∃S0:World→Prop,S0=fun W1=>W1.cell? ⟨w.heap.size,4,none⟩=some (.slice T.xa T.len T.cap)∧W1.cell? ⟨w.heap.size+1,1,none⟩=some (.int .i64 lvx)∧W1.cell? ⟨T.b,q0,none⟩=some (.int .i64 (T.kid 0).k)∧W1.cell? ⟨T.b,q0+1,none⟩=some (.string (T.kid 0).t)∧W1.cell? ⟨T.b,q0+2,none⟩=some (.int .i64 (T.kid 0).n)∧W1.cell? ⟨T.b,q0+3,none⟩=some (.string (T.kid 0).nm)∧W1.cell? ⟨T.b,q0+4,none⟩=some (.slice (T.kid 0).xa (T.kid 0).len (T.kid 0).cap):=⟨_,rfl⟩
 have ao:=ab aO;have bw:S0 w1.drew:=by rw[aO];exact⟨x4,y1,k0,k1,k2,k3,k4⟩
 have h1d:=(aa H1).below (aW _ _).drew;have HK1:=ab (aa ve lvx w1.drew v o f h1d.bel h1d.wr (h1d.len2 (by omega)))
 have HD1:=ab h1d;clear aO h1d x0 x1 x2 x3 x4 y0 y1 y2 y3 y4 k0 k1 k2 k3 k4;refine gZ 7 S0 ?_;intro F;refine aK F 0 ao bw ?_
 (try simp only[aH,aG])
 (try go_frame)
 refine aK F 1 ao bw ?_
 (try simp only[aH,aP,aG])
 (try go_frame)
 refine aK F 2 ao bw ?_
 (try simp only[aH,aP,aG])
 (try go_frame)
 refine aK F 3 ao bw ?_
 (try simp only[aH,aP,aG])
 (try go_frame)
 refine aK F 4 ao bw ?_
 (try simp only[aH,aP,aG])
 (try go_frame)
 refine aK F 5 ao bw ?_
 (try simp only[aH,aP,aG])
 (try go_frame)
 refine aK F 6 ao bw ?_
 (try simp only[aH,aP,aG])
 (try go_frame)
 refine g5 (by kernel_rfl) rfl (by kernel_rfl) (fun K4 bH=> ?_)
 go_simp;refine(aa HK1).mono ?_;rintro e w2 ⟨rfl,be⟩;obtain⟨v2,o2,f2,h2,cN⟩:=(aa HD1).sub (aa HZ).2 be;have cR:=ab (cN.keep (aa HD1).wr (aa bq) (by decide) bY)
 have tC:=ab (cN.keep (aa HD1).wr (aa lS) (by decide) m9)
 have H2:=ab h2;refine bH _ _ ?_
 (try simp only[aH,aP,aG])
 (try go_frame)
 clear bH K4 F bw ao be h2 cN HK1 HD1 H1;have e1:(ah 32).size=1:=rfl;have dW:Hid (Calls prog 42 #[.pointer (some ⟨z,0,none⟩),.slice (some ⟨w2.heap.size,0,none⟩) 3 3] (w2.alloc (.cells #[.string ⟨#[32]⟩,.string sgx,.string ⟨#[32]⟩] 9)) _):=ab ((aa H2).put (aa HZ).1 (aa HZ).2 (by omega) [ah 32,sgx,ah 32] (by simp) (fun t ht=>by simp only[dU,ek,fL] at ht;rcases ht with rfl | rfl | rfl <;> omega) 3 (by show (bN [ah 32,sgx,ah 32]).length≤3;unfold bN;simp only[ia,iQ,bg,List.length_nil,fh];omega))
 obtain⟨y0,y1,y2,y3,y4⟩:=nL (aa tC);go_wp2_with fail;clear y0 y1 y2 y3 y4;refine(aa dW).mono ?_;rintro e w3 ⟨rfl,v3,o3,f3,h3,dp⟩;have cY:=ab (dp.keep (aa H2).wr (aa cR) (by decide) bY)
 have AR:=ab (dp.keep (aa H2).wr (aa tC) (by decide) m9)
 have H3:=ab h3;clear h3 dp dW H2;go_wp2_with fail;obtain⟨x0,x1,x2,x3,x4⟩:=nL (aa cY);obtain⟨y0,y1,y2,y3,y4⟩:=nL (aa AR);obtain⟨k0,k1,k2,k3,k4⟩:=aa HKC1 w3 (aa H3).bel;obtain⟨S0,aO⟩:∃S0:World→Prop,S0=fun W1=>W1.cell? ⟨w.heap.size,4,none⟩=some (.slice T.xa T.len T.cap)∧W1.cell? ⟨w.heap.size+1,1,none⟩=some (.int .i64 lvx)∧W1.cell? ⟨T.b,q1,none⟩=some (.int .i64 (T.kid 1).k)∧W1.cell? ⟨T.b,q1+1,none⟩=some (.string (T.kid 1).t)∧W1.cell? ⟨T.b,q1+2,none⟩=some (.int .i64 (T.kid 1).n)∧W1.cell? ⟨T.b,q1+3,none⟩=some (.string (T.kid 1).nm)∧W1.cell? ⟨T.b,q1+4,none⟩=some (.slice (T.kid 1).xa (T.kid 1).len (T.kid 1).cap):=⟨_,rfl⟩
 have ao:=ab aO;have bw:S0 w3.drew:=by rw[aO];exact⟨x4,y1,k0,k1,k2,k3,k4⟩
 have vu:=(aa H3).below (aW _ _).drew;have cZ:=ab (aa HKS1 (lvx+1) w3.drew v3 o3 f3 vu.bel vu.wr (vu.len2 (by omega)))
 have ud:=ab vu;clear aO vu x0 x1 x2 x3 x4 y0 y1 y2 y3 y4 k0 k1 k2 k3 k4;refine gZ 8 S0 ?_;intro F;refine aK F 0 ao bw ?_
 (try simp only[aH,aG])
 (try go_frame)
 refine aK F 1 ao bw ?_
 (try simp only[aH,aP,aG])
 (try go_frame)
 refine aK F 2 ao bw ?_
 (try simp only[aH,aP,aG])
 (try go_frame)
 refine aK F 3 ao bw ?_
 (try simp only[aH,aP,aG])
 (try go_frame)
 refine aK F 4 ao bw ?_
 (try simp only[aH,aP,aG])
 (try go_frame)
 refine aK F 5 ao bw ?_
 (try simp only[aH,aP,aG])
 (try go_frame)
 refine aK F 6 ao bw ?_
 (try simp only[aH,aP,aG])
 (try go_frame)
 refine aK F 7 ao bw ?_
 (try simp only[aH,aP,aG])
 (try go_frame)
 refine g5 (by kernel_rfl) rfl (by kernel_rfl) (fun K4 bH=> ?_)
 go_simp;refine(aa cZ).mono ?_;rintro e w4 ⟨rfl,be⟩;obtain⟨v4,o4,f4,h4,cy⟩:=(aa ud).sub (aa HZ).2 be;have lK:=ab (cy.keep (aa ud).wr (aa cY) (by decide) bY)
 have HBS4:=ab (cy.keep (aa ud).wr (aa AR) (by decide) m9)
 have H4:=ab h4;refine bH _ _ ?_
 (try simp only[aH,aP,aG])
 (try go_frame)
 clear bH K4 F bw ao be h4 cy cZ ud H3;have HF:=ab ((aa H4).done (t:=ar T.exI) (c:=40 * T.cnt - 2) (by rw[aa HI];rw[kE,kE,fJ,aa HSG];show []++ar ((T.kid 0).atl lvx)++([32]++([lG T.k]++[32]))++ar ((T.kid 1).atl (lvx+1))=_;simp) (by omega))
 go_wp2_with fail;go_end0;exact⟨rfl,aa HF⟩
end Go.Proofs.YtlmnjbipfacniaaGreatDoor
