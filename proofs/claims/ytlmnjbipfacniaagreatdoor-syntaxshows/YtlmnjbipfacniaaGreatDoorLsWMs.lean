/- What the law about lines needs, plain. The lines of a text, -/
import Derived.Test.YtlmnjbipfacniaaGreatDoorSyAlMs
import Derived.Test.YtlmnjbipfacniaaGreatDoorWrNMs
import Derived.Test.YtlmnjbipfacniaaGreatDoorSyNzMs
import Derived.Lib.SplitLaws
import Derived.Test.YtlmnjbipfacniaaGreatDoorBxBMs
import Derived.Below
import Derived.Shelf.LaysM
import Derived.Shelf.Strings.Split
import Derived.Test.YtlmnjbipfacniaaGreatDoorProg
import Derived.Test.YtlmnjbipfacniaaGreatDoorExFitsMs
import Derived.Test.YtlmnjbipfacniaaGreatDoorLexRepLibMs
import Derived.Test.YtlmnjbipfacniaaGreatDoorQuote4Ms
import Derived.Test.YtlmnjbipfacniaaGreatDoorJoinLibMs
import Derived.Test.YtlmnjbipfacniaaGreatDoorSyDMs
set_option maxRecDepth 100000
set_option maxHeartbeats 8000000
namespace Go.Proofs.YtlmnjbipfacniaaGreatDoor
open Go.Proofs.Tryz
open Go.RowKit
theorem lnS_nz {s:ByteArray} {er:Int} {a:Nat} (h:jb s=.error (er,a)):er≠0:=by
 unfold jb at h;split at h
 ·cases h
 ·split at h
  ·rename_i q
   injection h with h
   injection h with h1 h2
   rw[←h1];omega
  ·cases hr:qQ s (gx s).1 with
   | error e=>
    rw[hr] at h;injection h with h
    subst h;exact BX s _ _ _ hr
   | ok x=>
    rw[hr] at h;dsimp only at h;split at h
    ·cases h
    ·injection h with h
     injection h with h1 h2
     rw[←h1];decide
theorem z7 {S:SV} (h:(gA S).2=0):S.wrong=0∧(ar (bT S)).length≤2000∧(gA S).1=⟨(ar (bT S)).toArray⟩:=by
 unfold gA at h ⊢
 by_cases h1:S.wrong≠0
 ·rw[af h1] at h;exact absurd h h1
 ·rw[ac h1] at h ⊢
  by_cases h2:(S.k=4∨S.k=5∨S.k=6)∧65536 < S.pa.txt.length
  ·rw[af h2] at h;exact absurd h (by decide)
  ·rw[ac h2] at h ⊢
   by_cases h3:eu (ar (bT S))=true
   ·rw[af h3] at h;exact absurd h (by decide)
   ·rw[ac h3] at h ⊢
    by_cases h4:2000 < (ar (bT S)).length
    ·rw[af h4] at h;exact absurd h (by decide)
    ·rw[ac h4]
     exact⟨Classical.byContradiction h1,Nat.le_of_not_lt h4,rfl⟩
theorem EW {S:SV} {w:World} (hS:S.In w) (h:(gA S).2=0):S.wrong=0∧(gA S).1.size≤maxLen∧jb (gA S).1=.ok (some S.bst):=by
 obtain⟨h1,h2,h3⟩:=z7 h;refine⟨h1, ?_, ?_⟩
 ·rw[h3]
  show (ar (bT S)).toArray.size≤maxLen;rw[lJ];unfold maxLen;omega
 ·rw[h3]
  exact GD h1 (GB _ hS.tg) (GB _ hS.va) h2
open Go.RowKit
def wm (l:List UInt8):List (List UInt8):=Lib.splitK [10] 0 (Lib.count l [10]) l
def lnL (l:List UInt8):List (List UInt8):=if l=[] then [] else wm (Lib.trimSuffix l [10])
section
variable {p r:List UInt8}
theorem idx_at (h:(10:UInt8) ∉ p):Lib.index (p++10::r) [10]=(p.length:Int):=by
 induction p with
 | nil=>rw[List.nil_append,Lib.index];simp[List.isPrefixOf]
 | cons b p ih=>
  have hb:¬(10:UInt8)=b:=fun e=>h (by rw[e];exact sc)
  have hp:=ih (fun q=>h (kH _ q))
  rw[List.cons_append,Lib.index,hp];have h1:([10]:List UInt8).isPrefixOf (b::(p++10::r))=false:=by simp[List.isPrefixOf,hb]
  have h2:((p.length:Int)== -1)=false:=by rw[nc];omega
  rw[h1,h2,List.length_cons];simp
theorem Lz (h:(10:UInt8) ∉ p):wm p=[p]:=by
 unfold wm;rw[Lib.count_one,List.count_eq_zero.2 h];rfl
theorem Eo (h:(10:UInt8) ∉ p):wm (p++10::r)=p::wm r:=by
 unfold wm;rw[Lib.count_one,Lib.count_one,List.count_append,List.count_eq_zero.2 h,List.count_cons_self,ni,Lib.splitK,idx_at h];have h2:((p.length:Int)== -1)=false:=by rw[nc];omega
 rw[h2];simp
theorem AY (q:List UInt8) (c:UInt8):Lib.trimSuffix (q++[c]) [10]=if c=10 then q else q++[c]:=by
 unfold Lib.trimSuffix Lib.hasSuffix
 by_cases h:c=10
 ·subst h;simp[List.isSuffixOf,List.isPrefixOf]
 ·simp[List.isSuffixOf,List.isPrefixOf,h,Ne.symm h]
theorem D5 (h:(10:UInt8) ∉ p):lnL (p++10::r)=p::lnL r:=by
 have e0:p++10::r≠[]:=by simp
 unfold lnL;rw[ac e0]
 by_cases hr:r=[]
 ·subst hr
  rw[af rfl,show p++[10]=p++[10] from rfl,AY,af rfl,Lz h]
 ·rw[ac hr]
  obtain⟨q,c,rfl⟩:∃q c,r=q++[c]:=⟨r.dropLast,r.getLast hr,(List.dropLast_concat_getLast hr).symm⟩;rw[show p++10::(q++[c])=(p++10::q)++[c] by simp,AY,AY]
  split
  ·exact Eo h
  ·rw[show (p++10::q)++[c]=p++10::(q++[c]) by simp];exact Eo h
end
def k9 (l:List UInt8):ByteArray:=⟨l.toArray⟩
def ic (s:ByteArray):List ByteArray:=(lnL s.data.toList).map k9
theorem Jh {s:ByteArray} (h:s.size≠0):Lib.splitB ⟨#[10]⟩ 0 (Lib.countB (k9 (Lib.trimSuffix s.data.toList [10])) ⟨#[10]⟩) (k9 (Lib.trimSuffix s.data.toList [10]))=ic s:=by
 have h0:s.data.toList≠[]:=fun e=>h (by rw[tq,e];rfl)
 have hd:=Lib.splitB_data ⟨#[10]⟩ 0 (Lib.countB (k9 (Lib.trimSuffix s.data.toList [10])) ⟨#[10]⟩) (k9 (Lib.trimSuffix s.data.toList [10]));unfold ic lnL wm;rw[ac h0];have hc:Lib.countB (k9 (Lib.trimSuffix s.data.toList [10])) ⟨#[10]⟩=Lib.count (Lib.trimSuffix s.data.toList [10]) [10]:=rfl;rw[←hc];have e:(k9 (Lib.trimSuffix s.data.toList [10])).data.toList=Lib.trimSuffix s.data.toList [10]:=by simp[k9]
 rw[e] at hd;rw[show ([10]:List UInt8)=(⟨#[10]⟩:ByteArray).data.toList from rfl,←hd,wv];exact(List.map_id' _).symm
def mz (s:ByteArray):Except Int (List SV):=
 if 65536 < s.size then .error 4 else if 1000 < (ic s).length then .error 5 else match lU (ic s) 0 [] with | .error e=>.error e.1 | .ok l=>.ok l
def iM (P:List SV):List UInt8:=P.flatMap fun S=>(gA S).1.data.toList++[10]
open Go.RowKit
theorem Ki {w:World} {ops:Array Oper} {rest:List Oper} {o:Oper} {a:Act} {Q:Exit→Act→World→Prop} (nD:o.guard=none) (sl x:Operand)
  (ho:o.op=.call {callee:=.builtin .append,args:= #[sl,x],argTypes:= #[48,48]})
  (B:Nat) (v:Value) (l:List UInt8) (b:UInt8) (g:Nat) (hs:a.eval sl=v) (hx:a.eval x=.slice (some ⟨g,0,none⟩) 1 1) (h:aZ w B v l) (hc:w.cell? ⟨g,0,none⟩=some (bc b)) (hB:B≤w.heap.size) (hl:l.length+1≤100000000)
  (hK:∀v' w',aZ w' B v' (l++[b])→Below B w w'→wpList prog ops Q rest (a.put o.dst v') w'):wpList prog ops Q (o::rest) a w:=by
 refine wpList_plain nD fun K hK'=> ?_
 obtain⟨v',w',hr,h1,h2,h3⟩:=DO h hB b ⟨g,0,none⟩ 1 (by rw[lL];exact hc) hl o.type
 unfold Oper.wp execOp;simp only[ho,resolve,invoke,builtin,qd,Sem.run_pure,Result.andThen_ok,oh,fM,jM,hs,hx,hr];exact hK' _ _ (hK v' w' h1 h2)
theorem DJ {P:List SV} {k:Nat} {S:SV} (h:P[k]? =some S):iM (P.take (k+1))=iM (P.take k)++(gA S).1.data.toList++[10]:=by
 unfold iM;rw[xB,h,List.flatMap_append];simp
structure ShI (w1:World) (P:List SV) (k:Nat) (v:Value) (wr:World):Prop where
 row:aZ wr w1.heap.size v (iM (P.take k))
 bel:Below w1.heap.size w1 wr
 all:∀S ∈ P.take k,(gA S).2=0
 len:(iM (P.take k)).length≤2001 * k
theorem ShI.next {w1:World} {P:List SV} {k:Nat} {v v':Value} {wr w':World} {S:SV} (h:ShI w1 P k v wr) (hS:P[k]? =some S) (h0:(gA S).2=0) (hr:aZ w' w1.heap.size v' (iM (P.take k)++(gA S).1.data.toList++[10])) (hb:Below w1.heap.size w1 w'):ShI w1 P (k+1) v' w':=by
 refine⟨by rw[DJ hS];exact hr,hb,fun U hU=> ?_, ?_⟩
 ·rw[xB,hS,uQ] at hU
  rcases hU with hU | hU
  ·exact h.all U hU
  ·have:U=S:=by simpa using hU
   rw[this];exact h0
 ·obtain⟨-,h2,h3⟩:=z7 h0
  rw[DJ hS,be,be,h3];have:=h.len;have:(⟨(ar (bT S)).toArray⟩:ByteArray).data.toList.length=(ar (bT S)).length:=by simp
  rw[this];simp only[List.length_cons,List.length_nil];omega
theorem Jf (V:PV) (P:List SV) (w:World) (hW:PrW w) (hV:PIn w V P):Calls prog 12 #[V.v P.length] w fun e w'=>Below w.heap.size w w'∧∃a er i,e=.returned (.tuple #[.string a,cY er i])∧(er=0→a=k9 (iM P)∧(∀S ∈ P,(gA S).2=0)∧P.length≤1000∧(iM P).length≤65536):=by
 have hmx:=hV.max;have iT:=hV.cap;unfold maxLen at hmx;have HV:=ab hV;have HW:=ab hW;obtain⟨w1,aI⟩:∃w1,w1=w.alloc (.cells #[.int .i64 0,.int .i64 0] 36):=⟨_,rfl⟩;have hb1:Below w.heap.size w w1:=by rw[aI];exact ba _
 have HZ1:Hid (w1.heap.size=w.heap.size+1):=ab (by rw[aI,dS])
 have iW:Hid (w1.heap[w.heap.size]? =some (.cells #[.int .i64 0,.int .i64 0] 36 (0,0))):=ab (by rw[aI];exact ax rfl)
 have aX:=ab hb1;have bG:=ab aI;clear hV hW hb1 aI;unfold PV.v cY;go_enter func12,ntmps12
 by_cases hn:P.length≤1000
 ·have q1:¬(1000:Int) < (P.length:Int):=by omega
  have HN:=ab hn;clear hn;go_wp2_with fail;rw[show w.alloc (.cells #[.int .i64 0,.int .i64 0] 36)=w1 from (aa bG).symm];clear q1;go_loopw [4,15] (fun v x wr=>∃k:Nat,k≤P.length∧x=.int .i64 (k:Int)∧Hid (ShI w1 P k v wr)) (fun _ x _=>P.length - (intOf x).toNat)
  case atStart=>exact⟨0,cU _,rfl,⟨lX _ _ _ _,aV _ _,fun S hS=>by simp at hS,by simp[iM]⟩⟩
  case round=>
   obtain⟨k,hk,rfl,HI⟩:=hrel;have lu:=ab (hJ (aa aX) (aa HI).bel);have tZ:=ab (an (aa iW) (aa HI).bel);rcases cG k P.length with au | gD
   ·have g1:(k:Int) < (P.length:Int):=by omega
    obtain⟨A,hA⟩:∃A,P[k]? =some A:=⟨P[k],gT _⟩;have iR:=(aa HV).later (aa lu);have vF:=ab (fun W (q:Below wr.heap.size wr W)=>Ir A W ((aa HW).later (aq (aa lu) q)) ((iR.later q).row k A hA).2)
    unfold SV.v lH at vF;have kR:=ab (fun v' w'=>(aa HI).next (v':=v') (w':=w') hA)
    have ep:=ab (fun h0=>(z7 (S:=A) h0).2)
    have vm:=iR.at_ (by omega)
    have jA:=yw (g:=V.gb) (o:=V.ob) (cap:=V.cap) (n:=P.length) (i:=k) au;rw[←vm] at jA;have mf:=(iR.row k A hA).1;have pg:A.cells.toList.length=24:=xe A;have HON:=ab (SV.cells_one A);obtain⟨L,hL⟩:∃L,L=A.cells.toList:=⟨_,rfl⟩;rw[show A.cells=L.toArray by rw[hL]] at vF HON
    rw[←hL] at mf pg;have HRG:=ab mf;have GJ:=F4 L pg;obtain⟨w2,fm⟩:∃w2,w2=wr.alloc (.cells L.toArray 30):=⟨_,rfl⟩;have hb2:Below wr.heap.size wr w2:=by rw[fm];exact ba _
    have HR2:Hid (w2.heap[wr.heap.size]? =some (.cells L.toArray 30 (0,0))):=ab (by rw[fm];exact ax rfl)
    have aE:=ab hb2;have fb:=ab fm;generalize (gA A).1=pt at *;generalize (gA A).2=er at *;clear hA iR vm mf hL hb2 fm;go_wp2_with (first
     | (refine wpList_load_mid rfl 30 _ rfl V.gb (V.ob+k * 24) rfl L _ (aa HRG) underlying30 rfl (de.trans (by rw[pg])) ?_)
     | (refine bh rfl 30 _ _ rfl wr.heap.size L.toArray rfl rfl 30 _ (ax rfl) (de.trans (by rw[show L.toArray.size=24 from lJ.trans pg])) (by rw[show L.toArray.size=24 from lJ.trans pg];rfl) (aa HON) ?_;rw[World.setRow_alloc_new];rw[show wr.alloc (.cells L.toArray 30)=w2 from (aa fb).symm])
     | (refine io rfl 30 _ rfl wr.heap.size rfl 30 L.toArray (0,0) _ (aa HR2) underlying30 rfl (de.trans (by rw[show L.toArray.size=24 from lJ.trans pg])) ?_)
     | fail)
    refine(aa vF w2 (aa aE)).mono ?_;rintro e w3 ⟨rfl,hb3⟩;have ao:=ab (aq (aa aE) hb3);clear hb3 HR2 fb HON HRG pg GJ vF
    by_cases h0:er=0
    ·have e1:(er !=0)=false:=by rw[bne,bt h0];rfl
     obtain⟨h2,h3⟩:=aa ep h0;have lQ:pt.size≤2000:=by rw[h3];show (ar (bT A)).toArray.size≤_;rw[lJ];exact h2
     have hlk:=(aa HI).len;have hkn:=aa HN;have oD:=ab ((aa HI).row.later (aa ao));have dD:=ab ((aa HI).bel.trans ((aa ao).mono (aa HI).bel.size));have iJ:=ab (aa dD).size;have tY:Hid ((iM (P.take k)).length+pt.size≤100000000):=ab (by omega)
     have kU:Hid ((iM (P.take k)++pt.data.toList).length+1≤100000000):=ab (by rw[be,←tq];omega)
     have HNY:=ab (aa kR);have HER:=ab h0;clear h0 h2 h3 lQ hlk hkn ep kR;go_wp2_with (first
      | (at_builtin;refine LZ rfl (.tmp 30) (.tmp 31) rfl w1.heap.size _ _ pt rfl rfl (aa oD) (aa iJ) (aa tY) ?_;intro v4 w4 h4 hb4 hk4)
      | (at_builtin;refine Ki rfl (.tmp 32) (.tmp 33) rfl w1.heap.size _ _ 10 w4.heap.size rfl rfl (h4.later (ba _)) (cr (ax rfl)) (by rw[dS];have:=aa iJ;have:=hb4.size;omega) (aa kU) ?_;intro v5 w5 h5 hb5)
      | fail)
     have HZ:=ab (aa HNY v5 w5 (aa HER) h5 (((aa dD).trans hb4).trans ((((ba _).mono (bv (aa iJ) hb4.size))).trans hb5)));clear h4 hb4 hk4 h5 hb5;exact⟨⟨k+1,by omega,by go_num,aa HZ⟩,by simp[intOf];omega⟩
    ·have e1:(er !=0)=true:=by rw[bne,bn h0];rfl
     have HER:=ab h0;have pF:=ab (an (aa tZ) (aa ao));have dJ:=ab (aq (aa lu) (aa ao));clear h0 ep kR;go_wp2_with (first
      | (refine bh rfl 36 _ _ rfl w.heap.size #[.int .i64 er,.int .i64 (k:Int)] rfl rfl 36 #[.int .i64 0,.int .i64 0] (by with_reducible exact aa pF) fh rfl (by simp[Value.oneCell']) ?_)
      | fail)
     exact bK (qC rfl _ _ w.heap.size _ _ rfl rfl (bW _ _ _ _ _ _ (aa pF)) rfl) rfl ⟨ed (aa dJ) _ (aw _) _,_,er,k,rfl,fun h=>absurd h (aa HER)⟩
   ·obtain rfl:k=P.length:=by omega
    have hrw:=(aa HI).row;rw[yH] at hrw;obtain⟨xa,cp,nA⟩:=rI hrw;subst nA;have tL:=wT hrw;have HAL:=ab (aa HI).all;rw[yH] at HAL;clear hrw
    by_cases hl:(iM P).length≤65536
    ·have q2:¬(65536:Int) < ((iM P).length:Int):=by omega
     have HL:=ab hl;clear hl;go_wp2_with (first
      | (refine bh rfl 36 _ _ rfl w.heap.size #[.int .i64 0,.int .i64 0] rfl rfl 36 #[.int .i64 0,.int .i64 0] (by with_reducible exact aa tZ) fh rfl (by simp[Value.oneCell']) ?_)
      | fail)
     exact bK (qC rfl _ _ w.heap.size _ _ rfl rfl (bW _ _ _ _ _ _ (aa tZ)) rfl) rfl ⟨ed (aa lu) _ (aw _) _,k9 (iM P),0,⟨0,rfl⟩,fun _=>⟨rfl,aa HAL,aa HN,aa HL⟩⟩
    ·have q2:(65536:Int) < ((iM P).length:Int):=by omega
     clear hl;go_wp2_with (first
      | (refine bh rfl 36 _ _ rfl w.heap.size #[.int .i64 4,.int .i64 0] rfl rfl 36 #[.int .i64 0,.int .i64 0] (by with_reducible exact aa tZ) fh rfl (by simp[Value.oneCell']) ?_)
      | fail)
     exact bK (qC rfl _ _ w.heap.size _ _ rfl rfl (bW _ _ _ _ _ _ (aa tZ)) rfl) rfl ⟨ed (aa lu) _ (aw _) _,_,4,0,rfl,fun h=>absurd h (by decide)⟩
 ·have q1:(1000:Int) < (P.length:Int):=by omega
  clear hn;go_wp2_with fail;exact bK (qC rfl _ _ w.heap.size _ _ rfl rfl (ax rfl) rfl) rfl ⟨ba _,_,5,0,rfl,fun h=>absurd h (by decide)⟩
end Go.Proofs.YtlmnjbipfacniaaGreatDoor
namespace Go.Proofs
open Go.Shelf Go.RowKit Go.Lib
def Tryz.lays146_ren:Go.Shelf.Ren:=⟨fun | 146=>67 | 221=>110 | 268=>138 | 138=>139 | 143=>125 | 195=>153 | 197=>148 | 218=>154 | 219=>143 | 260=>164 | 217=>131 | 225=>157 | 224=>158 | 267=>159 | 266=>147 | 314=>170 | n=>n,fun | 9=>9 | 31=>28 | 3=>3 | 4=>4 | 0=>0 | 105=>182 | 21=>21 | 5=>5 | 46=>190 | 119=>206 | 139=>209 | 138=>208 | 146=>200 | 51=>199 | n=>n,fun | 1=>2 | 3=>4 | 4=>5 | n=>n⟩
theorem Tryz.lays146:Go.Proofs.Lays.n146 Tryz.prog Tryz.lays146_ren:={
 mixed:=by kernel_rfl
 f138:=Tryz.func139.trans (congrArg some (by kernel_rfl))
 f143:=Tryz.func125.trans (congrArg some (by kernel_rfl))
 f146:=Tryz.func67.trans (congrArg some (by kernel_rfl))
 f195:=Tryz.func153.trans (congrArg some (by kernel_rfl))
 f197:=Tryz.func148.trans (congrArg some (by kernel_rfl))
 f217:=Tryz.func131.trans (congrArg some (by kernel_rfl))
 f218:=Tryz.func154.trans (congrArg some (by kernel_rfl))
 f219:=Tryz.func143.trans (congrArg some (by kernel_rfl))
 f221:=Tryz.func110.trans (congrArg some (by kernel_rfl))
 f224:=Tryz.func158.trans (congrArg some (by kernel_rfl))
 f225:=Tryz.func157.trans (congrArg some (by kernel_rfl))
 f260:=Tryz.func164.trans (congrArg some (by kernel_rfl))
 f266:=Tryz.func147.trans (congrArg some (by kernel_rfl))
 f267:=Tryz.func159.trans (congrArg some (by kernel_rfl))
 f268:=Tryz.func138.trans (congrArg some (by kernel_rfl))
 f314:=Tryz.func170.trans (congrArg some (by kernel_rfl))
 t0:=Tryz.underlying0
 a0:=Tryz.isAgg0
 z0:=Tryz.sizeOf0
 v0:=Tryz.zeroValue0
 t3:=Tryz.underlying3
 a3:=Tryz.isAgg3
 z3:=Tryz.sizeOf3
 v3:=Tryz.zeroValue3
 t4:=Tryz.underlying4
 a4:=Tryz.isAgg4
 z4:=Tryz.sizeOf4
 v4:=Tryz.zeroValue4
 t5:=Tryz.underlying5
 a5:=Tryz.isAgg5
 z5:=Tryz.sizeOf5
 v5:=Tryz.zeroValue5
 t9:=Tryz.underlying9
 a9:=Tryz.isAgg9
 z9:=Tryz.sizeOf9
 v9:=Tryz.zeroValue9
 t21:=Tryz.underlying21
 a21:=Tryz.isAgg21
 z21:=Tryz.sizeOf21
 v21:=Tryz.zeroValue21
 t31:=Tryz.underlying28
 a31:=Tryz.isAgg28
 z31:=Tryz.sizeOf28
 v31:=Tryz.zeroValue28
 t46:=Tryz.underlying190
 a46:=Tryz.isAgg190
 z46:=Tryz.sizeOf190
 v46:=Tryz.zeroValue190
 t51:=Tryz.underlying199
 a51:=Tryz.isAgg199
 z51:=Tryz.sizeOf199
 v51:=Tryz.zeroValue199
 t105:=Tryz.underlying182
 a105:=Tryz.isAgg182
 z105:=Tryz.sizeOf182
 v105:=Tryz.zeroValue182
 t119:=Tryz.underlying206
 a119:=Tryz.isAgg206
 z119:=Tryz.sizeOf206
 t138:=Tryz.underlying208
 a138:=Tryz.isAgg208
 z138:=Tryz.sizeOf208
 v138:=Tryz.zeroValue208
 t139:=Tryz.underlying209
 a139:=Tryz.isAgg209
 z139:=Tryz.sizeOf209
 v139:=Tryz.zeroValue209
 t146:=Tryz.underlying200
 a146:=Tryz.isAgg200
 z146:=Tryz.sizeOf200
 v146:=Tryz.zeroValue200
 g1:=by kernel_rfl
 g3:=by kernel_rfl
 g4:=by kernel_rfl}
theorem Tryz.strings_Split (s sep:ByteArray) (m:Int) (w:World) (hs:s.size < 4294967281) (hm:w.cell? ⟨2,0,none⟩=some (.int .i64 m)) (h1:1≤sep.size):
  Calls Tryz.prog 67 #[.string s,.string sep] w fun e w'=>
   e=.returned (.slice (some ⟨w.heap.size,0,none⟩) (Lib.countB s sep+1) (Lib.countB s sep+1))∧w'=w.alloc (.cells ((Lib.splitB sep 0 (Lib.countB s sep) s).map Value.string).toArray 9):=Any.strings_Split Tryz.lays146 (by kernel_rfl) s sep m w hs hm h1
end Go.Proofs
namespace Go.Proofs.YtlmnjbipfacniaaGreatDoor
open Go.Proofs.Tryz
open Go.RowKit
theorem Ev (l:List UInt8):(Lib.trimSuffix l [10]).length≤l.length:=by
 unfold Lib.trimSuffix;split
 ·rw[List.length_take];omega
 ·exact aw _
theorem Id (s:ByteArray) (w:World) (hs:s.size≤65536) (m:Int) (hm:w.cell? ⟨2,0,none⟩=some (.int .i64 m)):
  Calls prog 37 #[.string s] w fun e w'=>Below w.heap.size w w'∧∃a,e=.returned (.slice a (ic s).length (ic s).length)∧(0 < (ic s).length→a=some ⟨w.heap.size,0,none⟩∧w'.heap[w.heap.size]? =some (.cells ((ic s).map Value.string).toArray 9 (0,0))):=by
 have HT:=ab (Tryz.strings_TrimSuffix s ⟨#[10]⟩ w (by omega))
 have HSP:=ab (fun t h=>Tryz.strings_Split t ⟨#[10]⟩ m w h hm (by decide))
 have hz:s.size≤maxLen:=by unfold maxLen;omega
 have kO:=ab hs;clear hm hs;go_enter func37,ntmps37
 cases hemp:s.toList.isEmpty
 ·have bi:s.size≠0:=fun e=>by
   have h0:s.toList=[]:=by rw[lW,←List.length_eq_zero_iff,←tq];exact e
   rw[h0] at hemp;cases hemp
  have pA:=ab bi;clear bi;go_wp2_with fail;refine(aa HT).mono ?_;rintro e w1 ⟨rfl,rfl⟩;go_wp2_with fail;refine(aa HSP _ ?_).mono ?_
  ·have h1:=Ev s.data.toList
   rw[←tq] at h1;have h2:=aa kO;show (Lib.trimSuffix s.data.toList [10]).toArray.size < _;rw[lJ];omega
  ·have HL:=ab (Jh (aa pA))
   have HK:=ab (Lib.splitB_all ⟨#[10]⟩ (by decide) 0 _ (k9 (Lib.trimSuffix s.data.toList [10])) rfl)
   rw[aa HL] at HK;rintro e w2 ⟨rfl,rfl⟩;go_wp2_with fail;go_ret;refine⟨ba _,some ⟨w1.heap.size,0,none⟩, ?_,fun _=>⟨rfl, ?_⟩⟩
   ·rw[aa HK];rfl
   ·rw[←aa HL];exact ax rfl
 ·have h0:s.data.toList=[]:=by rw[←lW];simpa using hemp
  have HL:=ab (show ic s=[] by unfold ic lnL;rw[af h0];rfl)
  clear h0;go_wp2_with fail;go_ret;rw[aa HL];exact⟨aV _ _,none,rfl,fun h=>absurd h (by decide)⟩
end Go.Proofs.YtlmnjbipfacniaaGreatDoor
