/- What a token means. What lex.Line answers, for every text. - -/
import Derived.Test.YtlmnjbipfacniaaGreatDoorLexRepLibM
set_option maxRecDepth 10000
set_option maxHeartbeats 800000
namespace Go.Proofs.YtlmnjbipfacniaaGreatDoor
open Go.Proofs.Tryz
open Go.RowKit
theorem AV (s:ByteArray) (w:World) (hs:s.size≤1000000):Calls prog 93 #[.string s] w fun e w'=>e=.returned (.string s)∧Below w.heap.size w w':=by
 go_enter func93,ntmps93;go_wp2_with (go_at_call 133;refine(Tryz.stringslite_Clone s _ (by omega)).mono ?_;rintro e w' ⟨rfl,hb⟩)
 go_ret;exact⟨rfl,hb⟩
theorem ze (k:Nat) (t:ByteArray) (w:World) (ht:t.size≤2000) (h3:k≠3) (h4:k≠4):
  Calls prog 50 #[.int .i64 (k:Int),.string t] w fun e w'=>e=.returned (.string t)∧Below w.heap.size w w':=by
 have e3:((k:Int)==3)=false:=bn;have e4:((k:Int)==4)=false:=bn;have HC:=ab (AV t w (by omega))
 clear h3 h4;go_enter func50,ntmps50;go_wp2_with (refine(aa HC).mono ?_;rintro e w1 ⟨rfl,hb⟩);go_ret;exact⟨rfl,hb⟩
theorem Ka (t:ByteArray) (w:World) (ht:t.size≤2000) (h2:2≤t.size):
  Calls prog 50 #[.int .i64 4,.string t] w fun e w'=>e=.returned (.string (t.extract 1 (t.size - 1)))∧Below w.heap.size w w':=by
 have HC:=ab (AV (t.extract 1 (t.size - 1)) w (by simp;omega))
 have g1:(0:Int)≤(t.size:Int) - 1:=by omega
 have g2:(1:Int)≤(t.size:Int) - 1:=by omega
 have g3:((t.size:Int) - 1).toNat=t.size - 1:=by omega
 go_enter func50,ntmps50;go_wp2_with (refine(aa HC).mono ?_;rintro e w1 ⟨rfl,hb⟩);go_ret;exact⟨rfl,hb⟩
theorem Jk (t:ByteArray) (w:World) (ht:t.size≤2000) (h2:2≤t.size) (m:Int) (hm:w.cell? ⟨2,0,none⟩=some (.int .i64 m)):
  Calls prog 50 #[.int .i64 3,.string t] w fun e w'=>e=.returned (.string ⟨(kZ (t.extract 1 (t.size - 1)).data.toList).toArray⟩)∧Below w.heap.size w w':=by
 have hz:(t.extract 1 (t.size - 1)).size≤2000:=by simp;omega
 have HR:=ab (Tryz.strings_ReplaceAll (t.extract 1 (t.size - 1)) ⟨#[39,39]⟩ ⟨#[39]⟩ m w (by omega) hm (by decide) (by have:=Lib.countB_le ⟨#[39,39]⟩ (by decide) (t.extract 1 (t.size - 1)).size (t.extract 1 (t.size - 1)) (ax _);show (t.extract 1 (t.size - 1)).size+_ * 1≤_;omega))
 rw[show (⟨#[39,39]⟩:ByteArray).data.toList=[39,39] from rfl,show (⟨#[39]⟩:ByteArray).data.toList=[39] from rfl,Iq] at HR;have eI:(kZ (t.extract 1 (t.size - 1)).data.toList).length≤2000:=bJ (BJ _) (by simpa using hz)
 have HC:=ab (fun W=>AV ⟨(kZ (t.extract 1 (t.size - 1)).data.toList).toArray⟩ W (by show (kZ (t.extract 1 (t.size - 1)).data.toList).toArray.size≤_;simp only[wo];omega))
 generalize kZ (t.extract 1 (t.size - 1)).data.toList=U at *;have g1:(0:Int)≤(t.size:Int) - 1:=by omega
 have g2:(1:Int)≤(t.size:Int) - 1:=by omega
 have g3:((t.size:Int) - 1).toNat=t.size - 1:=by omega
 clear hm hz;go_enter func50,ntmps50;go_wp2_with fail;refine(aa HR).mono ?_;rintro e w1 ⟨rfl,hb⟩;have HB:=ab hb;clear hb;go_wp2_with (refine(aa HC _).mono ?_;rintro e w2 ⟨rfl,hb⟩);go_ret;exact⟨rfl,ap (aa HB) hb⟩
theorem Ig (s:ByteArray) (i j:Nat) (hj:j≤s.size):(s.extract i j).size=j - i:=by simp;omega
theorem zH (s:ByteArray) (i j:Nat):(s.extract i j).size≤s.size:=by simp;omega
theorem Kb (s:ByteArray) (i:Nat) (hs:s.size≤2000) (hi:i < s.size) (hk:(tk s i).1≠0) (w:World) (m:Int) (hm:w.cell? ⟨2,0,none⟩=some (.int .i64 m)):
  Calls prog 50 #[.int .i64 ((tk s i).1:Int),.string (s.extract i (tk s i).2.1)] w fun e w'=>e=.returned (.string (tk s i).2.2)∧Below w.heap.size w w':=by
 have eI:=yC s i hi;have hq:=rE s (i+1) (by omega)
 have hb:=CJ s (i+1) (by omega)
 have ay:=Ig s i (tk s i).2.1 eI.2.1;unfold tk at hk eI ay ⊢;split
 ·rename_i h1
  rw[af h1] at ay;exact ze 1 _ w (bJ (zH s _ _) hs) (by decide) (by decide)
 ·rename_i h1
  rw[ac h1] at ay hk eI;split
  ·rename_i h2
   rw[af h2] at ay;exact ze 2 _ w (bJ (zH s _ _) hs) (by decide) (by decide)
  ·rename_i h2
   rw[ac h2] at ay hk eI;split
   ·rename_i h3
    rw[af h3] at ay hk eI;split
    ·rename_i h4;rw[af h4] at hk;exact absurd rfl hk
    ·rename_i h4
     rw[ac h4] at ay;dsimp only at ay ⊢;have:=Jk (s.extract i (cq s (i+1)+1)) w (by omega) (by omega) m hm
     rw[CZ s i _ (by omega) (by omega),K1,Nat.add_sub_cancel,ct_und s (i+1) (by omega) (by omega)] at this
     exact this
   ·rename_i h3
    rw[ac h3] at ay hk eI;split
    ·rename_i h4
     rw[af h4] at ay hk eI;split
     ·rename_i h5;rw[af h5] at hk;exact absurd rfl hk
     ·rename_i h5
      rw[ac h5] at ay;dsimp only at ay ⊢;have:=Ka (s.extract i (cb s (i+1)+1)) w (by omega) (by omega)
      rw[CZ s i _ (by omega) (by omega),Nat.add_sub_cancel] at this
      exact this
    ·rename_i h4
     rw[ac h4] at ay hk eI;split
     ·rename_i h5
      rw[af h5] at ay;exact ze 5 _ w (bJ (zH s _ _) hs) (by decide) (by decide)
     ·rename_i h5
      rw[ac h5] at ay hk eI;split
      ·rename_i h6
       rw[af h6] at ay;exact ze 5 _ w (bJ (zH s _ _) hs) (by decide) (by decide)
      ·rename_i h6
       rw[ac h6] at hk;exact absurd rfl hk
open Go.RowKit
def nR (x:Tk):List Value:=[.int .i64 (x.k:Int),.string x.t,.int .i64 (x.a:Int)]
theorem zN (x:Tk):(nR x).length=3:=rfl
theorem Mz (x:Tk):∀u ∈ nR x,u.oneCell'=true:=by
 intro u hu;simp only[nR,dU,ek,fL] at hu;rcases hu with rfl | rfl | rfl <;> rfl
def uF:Array Value:= #[.int .i64 0,.string ByteArray.empty,.int .i64 0]
theorem LT:(prog.info? 102).map (fun i=>(i.zero,i.size,i.bytes))=some (some (.agg uF),3,32):=by kernel_rfl
theorem ur:(prog.info? 102).map (·.size)=some 3:=by kernel_rfl
theorem C5:(prog.info? 36).map (·.size)=some 2:=by kernel_rfl
theorem cc.lower {α:Type} {w:World} {B B':Nat} {e:TypeId} {sz:Nat} {f:α→List Value} {v:Value} {l:List α} (h:cc w B e sz f v l) (hB:B'≤B):cc w B' e sz f v l:=by
 refine⟨h.1, ?_⟩;rcases h.2 with q | ⟨g,cap,cur,q1,q2,q3⟩
 ·exact .inl q
 ·exact .inr ⟨g,cap,cur,q1,bJ hB q2,q3⟩
theorem AT {fn:Func} {p q:Tmp} (h:fn.results= #[.tmp p,.cell q 36]) (tmps:Array Value) (w:World) (k:Nat) (F:Array Value) (v:Value)
  (hp:tmps.getD p undef=v) (hq:tmps.getD q undef=.pointer (some ⟨k,0,none⟩)) (hk:w.heap[k]? =some (.cells F 36 (0,0))) (hF:F.size=2):
  (results fn tmps).run prog w=.ok (.tuple #[v,.agg F]) w:=by
 have hp':tmps[p]?.getD undef=v:=by simpa using hp
 have hq':tmps[q]?.getD undef=.pointer (some ⟨k,0,none⟩):=by simpa using hq
 have e2:=tn (P:=prog) w k 36 36 F (0,0) _ hk underlying36 rfl (by rw[hF];exact C5)
 simp[results,h,hp',hq',asAddr,e2]
def sX (e a:Nat):Array Value:= #[.int .i64 (e:Int),.int .i64 (a:Int)]
def wV (s:ByteArray) (w:World) (e:Ending) (w':World):Prop:=∃v,e=.returned (.tuple #[v,.agg (sX (gc s).2.1 (gc s).2.2)])∧cc w' w.heap.size 102 3 nR v (gc s).1∧Below w.heap.size w w'
theorem Kc {W:World} {N:Nat} {F:Array Value} (e a:Value) (hg:W.heap[N]? =some (.cells F 36 (0,0))) (fs:F.size=2):
  ((W.setCell ⟨N,0,none⟩ e).setCell ⟨N,1,none⟩ a).heap[N]? =some (.cells #[e,a] 36 (0,0)):=by
 have h1:=fK W N 0 _ _ e hg;have h2:=fK _ N 1 _ _ a h1;have:(F.setIfInBounds 0 e).setIfInBounds 1 a= #[e,a]:=by
  obtain⟨l⟩:=F
  match l,fs with
  | [x,y],_=>rfl
 rw[←this];exact h2
theorem Ke (s:ByteArray) (w:World) (hm:s.size≤maxLen) (hs:2000 < s.size):
  Calls prog 22 #[.string s] w fun e w'=>wV s w e w':=by
 unfold maxLen at hm;have HP:Hid (gc s=([],4,0)):=ab (by unfold gc;rw[af hs])
 have h1:(2000:Int) < (s.size:Int):=by omega
 unfold wV;go_enter func22,ntmps22;go_wp2;exact ck (AT rfl _ _ w.heap.size _ _ rfl rfl (aw rfl) rfl) rfl ⟨.slice none 0 0,by rw[aa HP];rfl,by rw[aa HP];exact m8 _ _ _ 3,ba _⟩
theorem KQ {w:World} {x:Tk}:∀k u,(nR x)[k]? =some u→(w.alloc (.cells (nR x).toArray 102)).cell? ⟨w.heap.size,k,none⟩=some u:=by
 intro k u h;rw[eX _ _ _ _ _ _ (aw rfl),List.getElem?_toArray];exact h
theorem MK {w:World} {B:Nat}:cc w B 102 3 nR (.slice none 0 0) ([]:List Tk):=m8 _ _ _ 3
theorem B0 {w a b:World} (h:Below w.heap.size w a) (k:Below (w.heap.size+1) a b) (_hs:w.heap.size+1≤a.heap.size):Below w.heap.size w b:=
 ⟨k.os.trans h.os,k.tape.trans h.tape,k.output.trans h.output,bJ h.size k.size,fun i hi=>(k.block i (by omega)).trans (h.block i hi)⟩
theorem Kx {w a b:World} (h:Below w.heap.size w a) (k:Below (w.heap.size+1) a b) (hs:w.heap.size+1≤a.heap.size):Below w.heap.size w b:=B0 h k hs
theorem Ky {B:Nat} {a b c:World} (h:Below B a b) (k:Below B b c):Below B a c:=
 ⟨k.os.trans h.os,k.tape.trans h.tape,k.output.trans h.output,bJ h.size k.size,fun i hi=>(k.block i hi).trans (h.block i hi)⟩
theorem Kz {B:Nat} {a b:World} {o:Obj} (h:Below B a b) (hB:B≤b.heap.size):Below B a (b.alloc o):=h.alloc hB _
theorem DI {w:World} {B:Nat} {v:Value} {l:List Tk} (h:cc w B 102 3 nR v l) (o:Obj):cc (w.alloc o) B 102 3 nR v l:=h.later (ba _)
theorem DS {w W:World} {e a:Nat} {F:Array Value} {v:Value} {l:List Tk} (hb:Below w.heap.size w W) (hz:W.heap[w.heap.size]? =some (.cells F 36 (0,0))) (fs:F.size=2) (hr:cc W (w.heap.size+1) 102 3 nR v l):
  cc ((W.setCell ⟨w.heap.size,0,none⟩ (.int .i64 (e:Int))).setCell ⟨w.heap.size,1,none⟩ (.int .i64 (a:Int))) w.heap.size 102 3 nR v l∧Below w.heap.size w ((W.setCell ⟨w.heap.size,0,none⟩ (.int .i64 (e:Int))).setCell ⟨w.heap.size,1,none⟩ (.int .i64 (a:Int)))∧((W.setCell ⟨w.heap.size,0,none⟩ (.int .i64 (e:Int))).setCell ⟨w.heap.size,1,none⟩ (.int .i64 (a:Int))).heap[w.heap.size]? =some (.cells (sX e a) 36 (0,0)):=by
 refine⟨?_,(hb.setCell (ax _) _).setCell (ax _) _,Kc _ _ hz fs⟩;refine(hr.same fun k hk=> ?_).lower (by omega)
 have:=(hr.low hk).1;rw[dm _ _ _ _ (by simp only;omega),dm _ _ _ _ (by simp only;omega)]
theorem Nh (s:ByteArray) (w:World) (hs:s.size≤2000) (m:Int) (hm:w.cell? ⟨2,0,none⟩=some (.int .i64 m)):
  Calls prog 22 #[.string s] w fun e w'=>wV s w e w':=by
 have HP:Hid (gc s=ln s 0 []):=ab (by unfold gc;rw[ac (by omega)])
 have h1:¬(2000:Int) < (s.size:Int):=by omega
 have HM:=ab hm;have HI:=ab LT;have HZ:Hid ((prog.info? 36).map (·.size)=some (sX 0 0).size):=ab (C5)
 unfold wV;clear hm;go_enter func22,ntmps22;go_wp2_with fail;refine(CW s 0 hs (cU _) _).mono ?_;rintro e W0 ⟨rfl,lo⟩;have lg:W0.heap[w.heap.size]? =some (.cells #[.int .i64 0,.int .i64 0] 36 (0,0)):=by rw[lo];exact aw rfl
 have aZ:Below w.heap.size w W0:=by rw[lo];exact ba _
 have lN:W0.heap.size=w.heap.size+1:=by rw[lo];simp
 have H0:=ab (And.intro lg (And.intro aZ lN));clear lo lg aZ lN;go_wp2_with fail;go_loopw [4,5] (fun v x wr=>∃(k:Nat) (l:List Tk),k≤s.size∧(k < s.size→aj s k≠32)∧l.length≤k∧x=.int .i64 (k:Int)∧Hid (cc wr (w.heap.size+1) 102 3 nR v l)∧Hid (Below (w.heap.size+1) W0 wr)∧Hid (ln s 0 []=ln s k l)) (fun _ x _=>s.size - (intOf x).toNat)
 case atStart=>exact⟨dd s d5 0,[],(mW s d5 0 (cU _)).2,fun h=>xC (zF h),cU _,rfl,m8 _ _ _ 3,aW _ _,Fg (cU _)⟩
 case round=>
  obtain⟨k,l,hk,hnb,hl,rfl,HR,HB,HL⟩:=hrel;rcases cX k s.size with au | jc
  ·have g1:(k:Int) < (s.size:Int):=by omega
   have HN:=ab (Jl s k hs au wr);have HX:=ab hnb;clear hnb;have vi:=yC s k au;have HA:=ab (fun h=>Kb s k hs au h)
   have AQ:=ab (@Gp s k l au (aa HX au));have AN:=ab (@Cg s k l au (aa HX au));have HPs:=ab (CW s (tk s k).2.1 hs vi.2.1);generalize hT:tk s k=T at *;obtain⟨tk1,te,tt⟩:=T;dsimp only at HN HA AQ AN HPs vi;clear hT
   by_cases h0:tk1=0
   ·subst h0
    have He:=ab (aa AQ rfl);have hz:=(aa HB).block w.heap.size (by omega) |>.trans (aa H0).1
    have c0:=(eX _ _ 0 _ _ _ hz).trans rfl;have c1:=(eX _ _ 1 _ _ _ hz).trans rfl;have z0:=cT _ _ 0 _ _ hz;have z1:=cT _ _ 1 _ _ hz;have HF:=ab (DS (e:=2) (a:=te) (B0 (aa H0).2.1 (aa HB) (Nat.le_of_eq (aa H0).2.2.symm)) hz rfl MK);clear AQ AN HA HPs hz;go_wp2_with (refine(aa HN).mono ?_;rintro e wr ⟨rfl,rfl⟩);exact ck (AT rfl _ _ w.heap.size _ _ rfl rfl (aa HF).2.2 rfl) rfl ⟨.slice none 0 0,by rw[aa HP,aa HL,aa He];rfl,by rw[aa HP,aa HL,aa He];exact(aa HF).1,(aa HF).2.1⟩
   ·have e0:((tk1:Int)==0)=false:=bn
    have HTok2:=ab (aa AN h0);have htl2:=vi.2.2.1 h0;have HA2:=ab (aa HA h0);clear AQ AN HA h0;have HC:=ab (av (Kx (aa H0).2.1 (aa HB) (Nat.le_of_eq (aa H0).2.2.symm)) (aa HM));go_wp2_with (first | (go_at_call 49;refine(aa HN).mono ?_;rintro e wr ⟨rfl,rfl⟩) | fail);refine(aa HA2 _ m (aa HC)).mono ?_;rintro e w1 ⟨rfl,hb1⟩;have d6:=ab ((aa HR).later hb1);have bf:=ab (Ky (aa HB) (hb1.mono (bJ (by have:=(aa H0).2.2;omega) (aa HB).size)))
    have bP:Hid (w.heap.size+1≤w1.heap.size):=ab (bJ (Nat.le_of_eq (aa H0).2.2.symm) (aa bf).size);clear hb1;go_wp2_with (first | (at_builtin;refine xP underlying62 (aa HI) rfl (by decide) (by decide) zN Mz rfl _ _ rfl (DI (aa d6) _) (by rw[eu];exact Nat.le_succ_of_le (aa bP)) ⟨tk1,tt,k⟩ w1.heap.size 1 rfl rfl (by exact KQ) (by omega) ?_;intro v' w2 aV bS _) | (go_at_call 47;refine(aa HPs _).mono ?_;rintro e w2 ⟨rfl,rfl⟩))
    refine⟨⟨dd s d5 te,l++[⟨tk1,tt,k⟩],(mW s d5 te vi.2.1).2,fun h=>xC (zF h), ?_,rfl,ab aV, ?_, ?_⟩, ?_⟩
    ·have:=(mW s d5 te vi.2.1).1;simp;omega
    ·exact Ih (Kz (aa bf) (aa bP)) (DI (aa d6) _) (Nat.le_of_eq (aa H0).2.2.symm) bS
    ·rw[aa HL,aa HTok2];exact Fg vi.2.1
    ·have:=(mW s d5 te vi.2.1).1;simp[intOf];omega
  ·obtain rfl:k=s.size:=by omega
   have HE:=ab (@Ci s l);have hz:=(aa HB).block w.heap.size (by omega) |>.trans (aa H0).1
   have c0:=(eX _ _ 0 _ _ _ hz).trans rfl;have c1:=(eX _ _ 1 _ _ _ hz).trans rfl;have z0:=cT _ _ 0 _ _ hz;have z1:=cT _ _ 1 _ _ hz;have HF:=ab (DS (e:=0) (a:=0) (B0 (aa H0).2.1 (aa HB) (Nat.le_of_eq (aa H0).2.2.symm)) hz rfl (aa HR));clear hz;go_wp2_with fail;exact ck (AT rfl _ _ w.heap.size _ _ rfl rfl (aa HF).2.2 rfl) rfl ⟨_,by rw[aa HP,aa HL,aa HE],by rw[aa HP,aa HL,aa HE];exact(aa HF).1,(aa HF).2.1⟩
theorem LM (s:ByteArray) (w:World) (hs:s.size≤maxLen) (m:Int) (hm:w.cell? ⟨2,0,none⟩=some (.int .i64 m)):
  Calls prog 22 #[.string s] w fun e w'=>wV s w e w':=by
 rcases cX 2000 s.size with h | h
 ·exact Ke s w hs h
 ·exact Nh s w h m hm
end Go.Proofs.YtlmnjbipfacniaaGreatDoor
