/- What a text in quotes means: two quotes are one. What a toke -/
import Derived.Test.YtlmnjbipfacniaaGreatDoorLxNextMs
import Derived.Lib.Replace
import Derived.Test.YtlmnjbipfacniaaGreatDoorExFitsMs
import Derived.Test.YtlmnjbipfacniaaGreatDoorLexRepLibMs
import Derived.Test.YtlmnjbipfacniaaGreatDoorQuote4Ms
import Derived.Maps.OwnSet
import Derived.Maps.OwnOps
import Derived.Maps.Views
import Derived.StringKeys
import Derived.Test.YtlmnjbipfacniaaGreatDoorLxPlainMs
import Derived.Lib.AppendZeros
import Derived.Test.YtlmnjbipfacniaaGreatDoorStBMs
set_option maxRecDepth 10000
set_option maxHeartbeats 800000
namespace Go.Proofs.YtlmnjbipfacniaaGreatDoor
open Go.Proofs.Tryz
open Go.RowKit
def k6:List UInt8→List UInt8
 | []=>[]
 | [c]=>[c]
 | a::b::r=>if a=39∧b=39 then 39::k6 r else a::k6 (b::r)
theorem DG (a:UInt8) (l:List UInt8) (h:([39,39]:List UInt8).isPrefixOf (a::l)=false):k6 (a::l)=a::k6 l:=by
 cases l with
 | nil=>rfl
 | cons b r=>
  rw[k6,ac];rintro⟨rfl,rfl⟩;simp[List.isPrefixOf] at h
theorem Eu (r:List UInt8):k6 (39::39::r)=39::k6 r:=by rw[k6,af ⟨rfl,rfl⟩]
theorem Bt:∀l:List UInt8,(k6 l).length≤l.length
 | []=>aw _
 | [_]=>aw _
 | a::b::r=>by
  rw[k6];split
  ·have:=Bt r;simp;omega
  ·have:=Bt (b::r);simp at this ⊢;omega
theorem I2 (b:UInt8) (l sub:List UInt8) (hp:sub.isPrefixOf (b::l)=false):Lib.index (b::l) sub=if Lib.index l sub= -1 then -1 else Lib.index l sub+1:=by
 rw[Lib.index,hp]
 by_cases h:Lib.index l sub= -1
 ·rw[h];rfl
 ·have:(Lib.index l sub== -1)=false:=bn h
  rw[this,ac h];rfl
theorem BA:∀(n:Nat) (l:List UInt8),l.length≤n→Lib.replaceK [39,39] [39] (Lib.count l [39,39]) l=k6 l
 | _,[],_=>by
  rw[Lib.count_miss rfl];rfl
 | 0,a::l,h=>by simp at h
 | n+1,a::l,h=>by
  cases hp:([39,39]:List UInt8).isPrefixOf (a::l) with
  | true=>
   obtain⟨r,hr⟩:∃r,a::l=39::39::r:=by
    obtain⟨r,hr⟩:=List.isPrefixOf_iff_prefix.1 hp;exact⟨r,hr.symm⟩
   rw[hr];have h0:Lib.index (39::39::r) [39,39]=((0:Nat):Int):=by simp[Lib.index]
   rw[Lib.count_hit (by decide) h0,Nat.add_comm,Lib.replaceK_hit _ _ _ _ 0 h0,Eu]
   show []++[39]++Lib.replaceK [39,39] [39] (Lib.count r [39,39]) r=_;rw[BA n r (by have:=aD List.length hr;simp at this h;omega)];rfl
  | false=>
   have ih:=BA n l (by simp at h;omega)
   rw[DG a l hp];have hx:=I2 a l [39,39] hp
   by_cases hm:Lib.index l [39,39]= -1
   ·rw[af hm] at hx
    rw[Lib.count_miss hx];rw[Lib.count_miss hm] at ih;show a::l=_;rw[←ih];rfl
   ·rw[ac hm] at hx
    obtain⟨i,hi⟩:∃i:Nat,Lib.index l [39,39]=i:=⟨(Lib.index l [39,39]).toNat,by have:=Lib.index_ge l [39,39];omega⟩
    rw[hi] at hx;have hx':Lib.index (a::l) [39,39]=((i+1:Nat):Int):=hx;rw[Lib.count_hit (by decide) hi,Nat.add_comm,Lib.replaceK_hit _ _ _ _ i hi] at ih
    rw[Lib.count_hit (by decide) hx',Nat.add_comm,Lib.replaceK_hit _ _ _ _ (i+1) hx',←ih]
    have:(a::l).drop (i+1+([39,39]:List UInt8).length)=l.drop (i+([39,39]:List UInt8).length):=by
     show (a::l).drop (i+1+2)=l.drop (i+2);rw[show i+1+2=(i+2)+1 by omega,List.drop_succ_cons]
    rw[this,List.take_succ_cons];rfl
theorem Ho (l:List UInt8):Lib.replaceAll l [39,39] [39]=k6 l:=by
 unfold Lib.replaceAll Lib.replace Lib.replaceNum;rw[ac (by decide),af (.inl (by decide))]
 exact BA l.length l (aw _)
def sec (s:ByteArray) (i j:Nat):List UInt8:=(s.data.toList.drop i).take (j - i)
theorem Ba (s:ByteArray) (i j:Nat) (h:i < j) (hj:j≤s.size):sec s i j=s.data.toList.getD i 0::sec s (i+1) j:=by
 unfold sec;have hl:i < s.data.toList.length:=by
                      have:s.data.toList.length=s.size:=by simp
                      omega
 rw[yG hl,show j - i=(j - (i+1))+1 by omega,List.take_succ_cons,List.getD,gT hl];rfl
theorem Ky (s:ByteArray) (i:Nat):sec s i i=[]:=by unfold sec;rw[Nat.sub_self];rfl
theorem Fj {s:ByteArray} {i n:Nat} (h:aj s i=n) (hn:n < 256):s.data.toList.getD i 0=UInt8.ofNat n:=(z6 hn).2 h
theorem ct_und (s:ByteArray) (i:Nat) (hi:i≤s.size) (h:cq s i < s.size):k6 (sec s i (cq s i))=ct s i:=
 xo (P:=fun i=>i≤s.size→cq s i < s.size→k6 (sec s i (cq s i))=ct s i) (fun i hi _ h=>by rw[ys hi] at h;omega)
  (fun i hi hb ih _ h=>by
   rw[xW hi hb] at h ⊢;have eN:=rV s (i+1) (by omega)
   rw[Ba s i _ (by omega) (by omega),xV hi hb,DG,ih (by omega) h]
   cases hp:([39,39]:List UInt8).isPrefixOf (s.data.toList.getD i 0::sec s (i+1) (cq s (i+1))) with
   | false=>rfl
   | true=>
    exfalso;obtain⟨r,hr⟩:=List.isPrefixOf_iff_prefix.1 hp;have:s.data.toList.getD i 0=39:=(by injection hr with h1 _;exact h1.symm)
    exact hb (by rw[←zE,this];rfl))
  (fun i hb hc ih _ h=>by
   rw[yr hb hc] at h ⊢;have h1:=mv (s:=s) (i:=i+1) (by omega)
   have eN:=rV s (i+2) (by omega)
   rw[Ba s i _ (by omega) (by omega),Ba s (i+1) _ (by omega) (by omega),Fj hb (by decide),Fj hc (by decide)]
   rw[show (UInt8.ofNat 39)=39 from rfl,Eu,yq hb hc,ih (by omega) h])
  (fun i hb hc _ h=>by rw[yf hb hc,Ky,yd hb hc];rfl) s.size i (by omega) hi h
theorem Kz (s:ByteArray) (i j:Nat):(s.extract i j).data.toList=sec s i j:=by
 rw[←lW];exact xH s i j
theorem CF (s:ByteArray) (i e:Nat) (h:i+1≤e) (he:e≤s.size):(s.extract i e).extract 1 ((s.extract i e).size - 1)=s.extract (i+1) (e - 1):=by
 rw[ByteArray.extract_extract];have:(s.extract i e).size=e - i:=by simp;omega
 rw[this]
 congr 1
 omega
open Go.RowKit
theorem AK (s:ByteArray) (w:World) (hs:s.size≤1000000):Calls prog 93 #[.string s] w fun e w'=>e=.returned (.string s)∧Below w.heap.size w w':=by
 go_enter func93,ntmps93;go_wp2_with (go_at_call 133;refine(Tryz.stringslite_Clone s _ (by omega)).mono ?_;rintro e w' ⟨rfl,hb⟩)
 go_ret;exact⟨rfl,hb⟩
theorem y9 (k:Nat) (t:ByteArray) (w:World) (ht:t.size≤2000) (h3:k≠3) (h4:k≠4):
  Calls prog 50 #[.int .i64 (k:Int),.string t] w fun e w'=>e=.returned (.string t)∧Below w.heap.size w w':=by
 have e3:((k:Int)==3)=false:=bn;have e4:((k:Int)==4)=false:=bn;have HC:=ab (AK t w (by omega))
 clear h3 h4;go_enter func50,ntmps50;go_wp2_with (refine(aa HC).mono ?_;rintro e w1 ⟨rfl,hb⟩);go_ret;exact⟨rfl,hb⟩
theorem JN (t:ByteArray) (w:World) (ht:t.size≤2000) (h2:2≤t.size):
  Calls prog 50 #[.int .i64 4,.string t] w fun e w'=>e=.returned (.string (t.extract 1 (t.size - 1)))∧Below w.heap.size w w':=by
 have HC:=ab (AK (t.extract 1 (t.size - 1)) w (by simp;omega))
 have g1:(0:Int)≤(t.size:Int) - 1:=by omega
 have g2:(1:Int)≤(t.size:Int) - 1:=by omega
 have g3:((t.size:Int) - 1).toNat=t.size - 1:=by omega
 go_enter func50,ntmps50;go_wp2_with (refine(aa HC).mono ?_;rintro e w1 ⟨rfl,hb⟩);go_ret;exact⟨rfl,hb⟩
theorem IW (t:ByteArray) (w:World) (ht:t.size≤2000) (h2:2≤t.size) (m:Int) (hm:w.cell? ⟨2,0,none⟩=some (.int .i64 m)):
  Calls prog 50 #[.int .i64 3,.string t] w fun e w'=>e=.returned (.string ⟨(k6 (t.extract 1 (t.size - 1)).data.toList).toArray⟩)∧Below w.heap.size w w':=by
 have hz:(t.extract 1 (t.size - 1)).size≤2000:=by simp;omega
 have HR:=ab (Tryz.strings_ReplaceAll (t.extract 1 (t.size - 1)) ⟨#[39,39]⟩ ⟨#[39]⟩ m w (by omega) hm (by decide) (by have:=Lib.countB_le ⟨#[39,39]⟩ (by decide) (t.extract 1 (t.size - 1)).size (t.extract 1 (t.size - 1)) (aw _);show (t.extract 1 (t.size - 1)).size+_ * 1≤_;omega))
 rw[show (⟨#[39,39]⟩:ByteArray).data.toList=[39,39] from rfl,show (⟨#[39]⟩:ByteArray).data.toList=[39] from rfl,Ho] at HR;have eN:(k6 (t.extract 1 (t.size - 1)).data.toList).length≤2000:=bv (Bt _) (by simpa using hz)
 have HC:=ab (fun W=>AK ⟨(k6 (t.extract 1 (t.size - 1)).data.toList).toArray⟩ W (by show (k6 (t.extract 1 (t.size - 1)).data.toList).toArray.size≤_;simp only[lJ];omega))
 generalize k6 (t.extract 1 (t.size - 1)).data.toList=U at *;have g1:(0:Int)≤(t.size:Int) - 1:=by omega
 have g2:(1:Int)≤(t.size:Int) - 1:=by omega
 have g3:((t.size:Int) - 1).toNat=t.size - 1:=by omega
 clear hm hz;go_enter func50,ntmps50;go_wp2_with fail;refine(aa HR).mono ?_;rintro e w1 ⟨rfl,hb⟩;have HB:=ab hb;clear hb;go_wp2_with (refine(aa HC _).mono ?_;rintro e w2 ⟨rfl,hb⟩);go_ret;exact⟨rfl,aq (aa HB) hb⟩
theorem Hd (s:ByteArray) (i j:Nat) (hj:j≤s.size):(s.extract i j).size=j - i:=by simp;omega
theorem zB (s:ByteArray) (i j:Nat):(s.extract i j).size≤s.size:=by simp;omega
theorem JO (s:ByteArray) (i:Nat) (hs:s.size≤2000) (hi:i < s.size) (hk:(tk s i).1≠0) (w:World) (m:Int) (hm:w.cell? ⟨2,0,none⟩=some (.int .i64 m)):
  Calls prog 50 #[.int .i64 ((tk s i).1:Int),.string (s.extract i (tk s i).2.1)] w fun e w'=>e=.returned (.string (tk s i).2.2)∧Below w.heap.size w w':=by
 have eN:=yv s i hi;have hq:=rV s (i+1) (by omega)
 have hb:=Cn s (i+1) (by omega)
 have ay:=Hd s i (tk s i).2.1 eN.2.1;unfold tk at hk eN ay ⊢;split
 ·rename_i h1
  rw[af h1] at ay;exact y9 1 _ w (bv (zB s _ _) hs) (by decide) (by decide)
 ·rename_i h1
  rw[ac h1] at ay hk eN;split
  ·rename_i h2
   rw[af h2] at ay;exact y9 2 _ w (bv (zB s _ _) hs) (by decide) (by decide)
  ·rename_i h2
   rw[ac h2] at ay hk eN;split
   ·rename_i h3
    rw[af h3] at ay hk eN;split
    ·rename_i h4;rw[af h4] at hk;exact absurd rfl hk
    ·rename_i h4
     rw[ac h4] at ay;dsimp only at ay ⊢;have:=IW (s.extract i (cq s (i+1)+1)) w (by omega) (by omega) m hm
     rw[CF s i _ (by omega) (by omega),Kz,Nat.add_sub_cancel,ct_und s (i+1) (by omega) (by omega)] at this
     exact this
   ·rename_i h3
    rw[ac h3] at ay hk eN;split
    ·rename_i h4
     rw[af h4] at ay hk eN;split
     ·rename_i h5;rw[af h5] at hk;exact absurd rfl hk
     ·rename_i h5
      rw[ac h5] at ay;dsimp only at ay ⊢;have:=JN (s.extract i (cb s (i+1)+1)) w (by omega) (by omega)
      rw[CF s i _ (by omega) (by omega),Nat.add_sub_cancel] at this
      exact this
    ·rename_i h4
     rw[ac h4] at ay hk eN;split
     ·rename_i h5
      rw[af h5] at ay;exact y9 5 _ w (bv (zB s _ _) hs) (by decide) (by decide)
     ·rename_i h5
      rw[ac h5] at ay hk eN;split
      ·rename_i h6
       rw[af h6] at ay;exact y9 5 _ w (bv (zB s _ _) hs) (by decide) (by decide)
      ·rename_i h6
       rw[ac h6] at hk;exact absurd rfl hk
open Go.RowKit
def n8 (x:Tk):List Value:=[.int .i64 (x.k:Int),.string x.t,.int .i64 (x.a:Int)]
theorem zH (x:Tk):(n8 x).length=3:=rfl
theorem L6 (x:Tk):∀u ∈ n8 x,u.oneCell'=true:=by
 intro u hu;simp only[n8,dO,eg,fN] at hu;rcases hu with rfl | rfl | rfl <;> rfl
def uw:Array Value:= #[.int .i64 0,.string ByteArray.empty,.int .i64 0]
theorem Lq:(prog.info? 102).map (fun i=>(i.zero,i.size,i.bytes))=some (some (.agg uw),3,32):=by kernel_rfl
theorem ui:(prog.info? 102).map (·.size)=some 3:=by kernel_rfl
theorem CL:(prog.info? 36).map (·.size)=some 2:=by kernel_rfl
theorem bP.lower {α:Type} {w:World} {B B':Nat} {e:TypeId} {sz:Nat} {f:α→List Value} {v:Value} {l:List α} (h:bP w B e sz f v l) (hB:B'≤B):bP w B' e sz f v l:=by
 refine⟨h.1, ?_⟩;rcases h.2 with q | ⟨g,cap,cur,q1,q2,q3⟩
 ·exact .inl q
 ·exact .inr ⟨g,cap,cur,q1,bv hB q2,q3⟩
theorem qC {fn:Func} {p q:Tmp} (h:fn.results= #[.tmp p,.cell q 36]) (tmps:Array Value) (w:World) (k:Nat) (F:Array Value) (v:Value)
  (hp:tmps.getD p undef=v) (hq:tmps.getD q undef=.pointer (some ⟨k,0,none⟩)) (hk:w.heap[k]? =some (.cells F 36 (0,0))) (hF:F.size=2):
  (results fn tmps).run prog w=.ok (.tuple #[v,.agg F]) w:=by
 have hp':tmps[p]?.getD undef=v:=by simpa using hp
 have hq':tmps[q]?.getD undef=.pointer (some ⟨k,0,none⟩):=by simpa using hq
 have e2:=uR (P:=prog) w k 36 36 F (0,0) _ hk underlying36 rfl (by rw[hF];exact CL)
 simp[results,h,hp',hq',asAddr,e2]
def tj (e a:Nat):Array Value:= #[.int .i64 (e:Int),.int .i64 (a:Int)]
def wZ (s:ByteArray) (w:World) (e:Ending) (w':World):Prop:=∃v,e=.returned (.tuple #[v,.agg (tj (gx s).2.1 (gx s).2.2)])∧bP w' w.heap.size 102 3 n8 v (gx s).1∧Below w.heap.size w w'
theorem JP {W:World} {N:Nat} {F:Array Value} (e a:Value) (hg:W.heap[N]? =some (.cells F 36 (0,0))) (fs:F.size=2):
  ((W.setCell ⟨N,0,none⟩ e).setCell ⟨N,1,none⟩ a).heap[N]? =some (.cells #[e,a] 36 (0,0)):=by
 have h1:=fB W N 0 _ _ e hg;have h2:=fB _ N 1 _ _ a h1;have:(F.setIfInBounds 0 e).setIfInBounds 1 a= #[e,a]:=by
  obtain⟨l⟩:=F
  match l,fs with
  | [x,y],_=>rfl
 rw[←this];exact h2
theorem JR (s:ByteArray) (w:World) (hm:s.size≤maxLen) (hs:2000 < s.size):
  Calls prog 22 #[.string s] w fun e w'=>wZ s w e w':=by
 unfold maxLen at hm;have HP:Hid (gx s=([],4,0)):=ab (by unfold gx;rw[af hs])
 have h1:(2000:Int) < (s.size:Int):=by omega
 unfold wZ;go_enter func22,ntmps22;go_wp2;exact bK (qC rfl _ _ w.heap.size _ _ rfl rfl (ax rfl) rfl) rfl ⟨.slice none 0 0,by rw[aa HP];rfl,by rw[aa HP];exact lX _ _ _ 3,ba _⟩
theorem Ko {w:World} {x:Tk}:∀k u,(n8 x)[k]? =some u→(w.alloc (.cells (n8 x).toArray 102)).cell? ⟨w.heap.size,k,none⟩=some u:=by
 intro k u h;rw[eB _ _ _ _ _ _ (ax rfl),List.getElem?_toArray];exact h
theorem Mh {w:World} {B:Nat}:bP w B 102 3 n8 (.slice none 0 0) ([]:List Tk):=lX _ _ _ 3
theorem BJ {w a b:World} (h:Below w.heap.size w a) (k:Below (w.heap.size+1) a b) (_hs:w.heap.size+1≤a.heap.size):Below w.heap.size w b:=
 ⟨k.os.trans h.os,k.tape.trans h.tape,k.output.trans h.output,bv h.size k.size,fun i hi=>(k.block i (by omega)).trans (h.block i hi)⟩
theorem J6 {w a b:World} (h:Below w.heap.size w a) (k:Below (w.heap.size+1) a b) (hs:w.heap.size+1≤a.heap.size):Below w.heap.size w b:=BJ h k hs
theorem J7 {B:Nat} {a b c:World} (h:Below B a b) (k:Below B b c):Below B a c:=
 ⟨k.os.trans h.os,k.tape.trans h.tape,k.output.trans h.output,bv h.size k.size,fun i hi=>(k.block i hi).trans (h.block i hi)⟩
theorem J8 {B:Nat} {a b:World} {o:Obj} (h:Below B a b) (hB:B≤b.heap.size):Below B a (b.alloc o):=h.alloc hB _
theorem Dq {w:World} {B:Nat} {v:Value} {l:List Tk} (h:bP w B 102 3 n8 v l) (o:Obj):bP (w.alloc o) B 102 3 n8 v l:=h.later (ba _)
theorem DA {w W:World} {e a:Nat} {F:Array Value} {v:Value} {l:List Tk} (hb:Below w.heap.size w W) (hz:W.heap[w.heap.size]? =some (.cells F 36 (0,0))) (fs:F.size=2) (hr:bP W (w.heap.size+1) 102 3 n8 v l):
  bP ((W.setCell ⟨w.heap.size,0,none⟩ (.int .i64 (e:Int))).setCell ⟨w.heap.size,1,none⟩ (.int .i64 (a:Int))) w.heap.size 102 3 n8 v l∧Below w.heap.size w ((W.setCell ⟨w.heap.size,0,none⟩ (.int .i64 (e:Int))).setCell ⟨w.heap.size,1,none⟩ (.int .i64 (a:Int)))∧((W.setCell ⟨w.heap.size,0,none⟩ (.int .i64 (e:Int))).setCell ⟨w.heap.size,1,none⟩ (.int .i64 (a:Int))).heap[w.heap.size]? =some (.cells (tj e a) 36 (0,0)):=by
 refine⟨?_,(hb.setCell (aw _) _).setCell (aw _) _,JP _ _ hz fs⟩;refine(hr.same fun k hk=> ?_).lower (by omega)
 have:=(hr.low hk).1;rw[dh _ _ _ _ (by simp only;omega),dh _ _ _ _ (by simp only;omega)]
theorem MO (s:ByteArray) (w:World) (hs:s.size≤2000) (m:Int) (hm:w.cell? ⟨2,0,none⟩=some (.int .i64 m)):
  Calls prog 22 #[.string s] w fun e w'=>wZ s w e w':=by
 have HP:Hid (gx s=ln s 0 []):=ab (by unfold gx;rw[ac (by omega)])
 have h1:¬(2000:Int) < (s.size:Int):=by omega
 have HM:=ab hm;have HI:=ab Lq;have HZ:Hid ((prog.info? 36).map (·.size)=some (tj 0 0).size):=ab (CL)
 unfold wZ;clear hm;go_enter func22,ntmps22;go_wp2_with fail;refine(CC s 0 hs (cU _) _).mono ?_;rintro e W0 ⟨rfl,lp⟩;have j5:W0.heap[w.heap.size]? =some (.cells #[.int .i64 0,.int .i64 0] 36 (0,0)):=by rw[lp];exact ax rfl
 have bd:Below w.heap.size w W0:=by rw[lp];exact ba _
 have lP:W0.heap.size=w.heap.size+1:=by rw[lp];simp
 have H0:=ab (And.intro j5 (And.intro bd lP));clear lp j5 bd lP;go_wp2_with fail;go_loopw [4,5] (fun v x wr=>∃(k:Nat) (l:List Tk),k≤s.size∧(k < s.size→aj s k≠32)∧l.length≤k∧x=.int .i64 (k:Int)∧Hid (bP wr (w.heap.size+1) 102 3 n8 v l)∧Hid (Below (w.heap.size+1) W0 wr)∧Hid (ln s 0 []=ln s k l)) (fun _ x _=>s.size - (intOf x).toNat)
 case atStart=>exact⟨cZ s dR 0,[],(mX s dR 0 (cU _)).2,fun h=>of_decide_eq_false (zz h),cU _,rfl,lX _ _ _ 3,aV _ _,EV (cU _)⟩
 case round=>
  obtain⟨k,l,hk,hnb,hl,rfl,HR,HB,HL⟩:=hrel;rcases cG k s.size with au | gD
  ·have g1:(k:Int) < (s.size:Int):=by omega
   have HN:=ab (IX s k hs au wr);have HX:=ab hnb;clear hnb;have vc:=yv s k au;have HA:=ab (fun h=>JO s k hs au h)
   have AF:=ab (@FZ s k l au (aa HX au));have AC:=ab (@B0 s k l au (aa HX au));have HPs:=ab (CC s (tk s k).2.1 hs vc.2.1);generalize hT:tk s k=T at *;obtain⟨tk1,te,tt⟩:=T;dsimp only at HN HA AF AC HPs vc;clear hT
   by_cases h0:tk1=0
   ·subst h0
    have GM:=ab (aa AF rfl);have hz:=(aa HB).block w.heap.size (by omega) |>.trans (aa H0).1
    have c0:=(eB _ _ 0 _ _ _ hz).trans rfl;have c1:=(eB _ _ 1 _ _ _ hz).trans rfl;have z0:=cN _ _ 0 _ _ hz;have z1:=cN _ _ 1 _ _ hz;have HF:=ab (DA (e:=2) (a:=te) (BJ (aa H0).2.1 (aa HB) (Nat.le_of_eq (aa H0).2.2.symm)) hz rfl Mh);clear AF AC HA HPs hz;go_wp2_with (refine(aa HN).mono ?_;rintro e wr ⟨rfl,rfl⟩);exact bK (qC rfl _ _ w.heap.size _ _ rfl rfl (aa HF).2.2 rfl) rfl ⟨.slice none 0 0,by rw[aa HP,aa HL,aa GM];rfl,by rw[aa HP,aa HL,aa GM];exact(aa HF).1,(aa HF).2.1⟩
   ·have e0:((tk1:Int)==0)=false:=bn
    have HTok2:=ab (aa AC h0);have htl2:=vc.2.2.1 h0;have HA2:=ab (aa HA h0);clear AF AC HA h0;have HC:=ab (av (J6 (aa H0).2.1 (aa HB) (Nat.le_of_eq (aa H0).2.2.symm)) (aa HM));go_wp2_with (first | (go_at_call 49;refine(aa HN).mono ?_;rintro e wr ⟨rfl,rfl⟩) | fail);refine(aa HA2 _ m (aa HC)).mono ?_;rintro e w1 ⟨rfl,hb1⟩;have dU:=ab ((aa HR).later hb1);have aX:=ab (J7 (aa HB) (hb1.mono (bv (by have:=(aa H0).2.2;omega) (aa HB).size)))
    have bL:Hid (w.heap.size+1≤w1.heap.size):=ab (bv (Nat.le_of_eq (aa H0).2.2.symm) (aa aX).size);clear hb1;go_wp2_with (first | (at_builtin;refine wL underlying62 (aa HI) rfl (by decide) (by decide) zH L6 rfl _ _ rfl (Dq (aa dU) _) (by rw[dS];exact Nat.le_succ_of_le (aa bL)) ⟨tk1,tt,k⟩ w1.heap.size 1 rfl rfl (by exact Ko) (by omega) ?_;intro v' w2 aS bI _) | (go_at_call 47;refine(aa HPs _).mono ?_;rintro e w2 ⟨rfl,rfl⟩))
    refine⟨⟨cZ s dR te,l++[⟨tk1,tt,k⟩],(mX s dR te vc.2.1).2,fun h=>of_decide_eq_false (zz h), ?_,rfl,ab aS, ?_, ?_⟩, ?_⟩
    ·have:=(mX s dR te vc.2.1).1;simp;omega
    ·exact CM (J8 (aa aX) (aa bL)) (Dq (aa dU) _) (Nat.le_of_eq (aa H0).2.2.symm) bI
    ·rw[aa HL,aa HTok2];exact EV vc.2.1
    ·have:=(mX s dR te vc.2.1).1;simp[intOf];omega
  ·obtain rfl:k=s.size:=by omega
   have HE:=ab (@B2 s l);have hz:=(aa HB).block w.heap.size (by omega) |>.trans (aa H0).1
   have c0:=(eB _ _ 0 _ _ _ hz).trans rfl;have c1:=(eB _ _ 1 _ _ _ hz).trans rfl;have z0:=cN _ _ 0 _ _ hz;have z1:=cN _ _ 1 _ _ hz;have HF:=ab (DA (e:=0) (a:=0) (BJ (aa H0).2.1 (aa HB) (Nat.le_of_eq (aa H0).2.2.symm)) hz rfl (aa HR));clear hz;go_wp2_with fail;exact bK (qC rfl _ _ w.heap.size _ _ rfl rfl (aa HF).2.2 rfl) rfl ⟨_,by rw[aa HP,aa HL,aa HE],by rw[aa HP,aa HL,aa HE];exact(aa HF).1,(aa HF).2.1⟩
theorem Lj (s:ByteArray) (w:World) (hs:s.size≤maxLen) (m:Int) (hm:w.cell? ⟨2,0,none⟩=some (.int .i64 m)):
  Calls prog 22 #[.string s] w fun e w'=>wZ s w e w':=by
 rcases cG 2000 s.size with h | h
 ·exact JR s w hs h
 ·exact MO s w h m hm
open Go.RowKit
def nZ (s:ByteArray):Lit:=.string s.data.toList
theorem Ed {s t:ByteArray} (h:nZ s=nZ t):s=t:=by
 injection h with h
 exact ByteArray.ext (Array.toList_inj.1 h)
theorem Ea {s:ByteArray} (hs:s.size≤maxLen):keyOf prog 9 (.string s)=some (nZ s):=Go.WideMaps.keyOf_string_mk underlying9 hs
theorem Kf (w:World):(zeroValue 3).run prog w=.ok (.int .i64 0) w:=by kernel_rfl
theorem D9 {s:ByteArray}:WideAt.IsKeyLit (nZ s):=by simp[WideAt.IsKeyLit,nZ]
def MI (w:World) (b n:Nat) (f:ByteArray→Option Int):Prop:=∃D:DataW Unit,w.ownsMap prog 9 (plainElem prog 3) b n D∧∀s,Maps.has D (nZ s)=(f s).isSome∧∀x,f s=some x→D.atKey (nZ s) (.lit (.int .i64 0))=.lit (.int .i64 x)
theorem MI.below {w w':World} {b n:Nat} {f:ByteArray→Option Int} (h:MI w b n f) (hb:w'.heap[b]? =w.heap[b]?):MI w' b n f:=by
 obtain⟨D,⟨es,cl,h1,h2,h3,h4⟩,h5⟩:=h;exact⟨D,⟨es,cl,hb.trans h1,h2,h3,h4⟩,h5⟩
theorem MI.lt {w:World} {b n:Nat} {f:ByteArray→Option Int} (h:MI w b n f):b < w.heap.size:=by obtain⟨D,h, -⟩:=h;exact h.lt
theorem MI.new {w:World}:MI (w.alloc (.map #[] 0)) w.heap.size 0 (fun _=>none):=⟨_,World.ownsMap_made w _ _ _,fun s=>⟨rfl,fun x h=>by cases h⟩⟩
theorem MI.put {w:World} {b n:Nat} {f:ByteArray→Option Int} {D:DataW Unit} {s:ByteArray} {x:Int} (h5:∀s,Maps.has D (nZ s)=(f s).isSome∧∀x,f s=some x→D.atKey (nZ s) (.lit (.int .i64 0))=.lit (.int .i64 x)) (hm:Maps.IsMap D)
  (h:w.ownsMap prog 9 (plainElem prog 3) b n (D.put (nZ s) (.lit (.int .i64 x)))):MI w b n (fun t=>if t=s then some x else f t):=by
 refine⟨_,h,fun t=> ?_⟩
 show Maps.has (D.put (nZ s) (.lit (.int .i64 x))) (nZ t)=(if t=s then some x else f t).isSome∧∀y,(if t=s then some x else f t)=some y→(D.put (nZ s) (.lit (.int .i64 x))).atKey (nZ t) (.lit (.int .i64 0))=.lit (.int .i64 y)
 by_cases q:t=s
 ·subst q
  rw[af rfl];exact⟨Maps.has_put_same hm D9 _,fun y hy=>by injection hy with hy;subst hy;exact Maps.atKey_put_same hm D9 _ _⟩
 ·rw[ac q,Maps.has_put_other (fun e=>q (Ed e)),Maps.atKey_put_other (fun e=>q (Ed e))]
  exact h5 t
open Go.RowKit
theorem Ih {w:World} {ops:Array Oper} {rest:List Oper} {o:Oper} {a:Act} {Q:Exit→Act→World→Prop} (hg:o.guard=none) (m x v:Operand) (vf:o.op=Op.insert 82 m x v∨o.op=Op.mapUpdate 82 m x v)
  {b n:Nat} {f:ByteArray→Option Int} (hm:a.eval m=.map (some b)) (hM:MI w b n f) (hn:n < 100000) (s:ByteArray) (c:Int) (hx:a.eval x=.string s) (hv:a.eval v=.int .i64 c) (hs:s.size≤maxLen) (hc:(Lit.int .i64 c).wf=true)
  (hK:∀w',MI w' b (n+1) (fun t=>if t=s then some c else f t)→w.grownBy w' (some b)→wpList prog ops Q rest (a.put o.dst undef) w'):wpList prog ops Q (o::rest) a w:=by
 obtain⟨D,dP,h5⟩:=hM;refine wpList_plain hg fun K' hK'=> ?_
 obtain⟨w',Av,r1,r2⟩:=dP.update (Maps.string_keyed underlying9) underlying82 (by unfold maxLen;omega) (Ea hs) (plainElem_int underlying3 hc)
 have hk:=hK w' (MI.put h5 dP.isMap r1) r2;unfold Oper.wp;rcases vf with vf | vf
 ·simp[execOp,vf,hm,hx,hv,Av,Result.andThen]
  exact hK' _ _ hk
 ·simp[execOp,vf,hm,hx,hv,Av,Result.andThen]
  exact hK' _ _ hk
end Go.Proofs.YtlmnjbipfacniaaGreatDoor
