/- The table of kinds, out of what the row lists. A pattern tha -/
import Derived.Test.YtlmnjbipfacniaaGreatDoorRows
import Derived.Test.YtlmnjbipfacniaaGreatDoorPatWrongP
import Derived.ProofKit
import Derived.OpenShut
import Derived.LaidLaws
import Derived.Lib.LaidTab
import Derived.Test.YtlmnjbipfacniaaGreatDoorPatBaseM
import Derived.Deep.Slices
import Derived.WalkKit
set_option maxRecDepth 100000
namespace Go.Proofs.YtlmnjbipfacniaaGreatDoor
open Go.Proofs.Tryz
open Go.ChangeShapes Go.WideShapes Go.ChangeAt Go.RowKit
theorem Dd:prog.cellsOf 162=4:=by kernel_rfl
theorem Dv:prog.cellsOf 3=1:=by kernel_rfl
theorem Du:prog.cellsOf 9=1:=by kernel_rfl
theorem IX {H:Type} {enc:TypeId × Value→H} {W:World} {base m:Nat} {spare:Nat→Bool} {held:Bool} {cs:List Value} {pl:List MemPlace} {s:List UInt8} {h a b:Int}
  (hd:DataW.trod enc prog W base spare held m 162 cs=some (.agg [.lit (.string s),.lit (.int .i64 h),.lit (.int .i64 a),.lit (.int .i64 b)],pl)):
  cs=[.string ⟨s.toArray⟩,.int .i64 h,.int .i64 a,.int .i64 b]:=by
 obtain⟨xs,n, -,hx,hl,lh,hf⟩:=xE underlying162 hd;rw[Dd] at hl
 replace lh:xs.length=4:=lh
 simp only[nX,DataW.agg.injEq] at hx
 match xs,lh,cs,hl with
 | [x0,x1,x2,x3],_,[c0,c1,c2,c3],_=>
  have u0:=hf 0 _ rfl;have u1:=hf 1 _ rfl;have u2:=hf 2 _ rfl;have u3:=hf 3 _ rfl;simp[Du] at u0;simp[Dv] at u1 u2 u3;obtain⟨t,fm,jL, -⟩:=pM underlying9 u0;obtain⟨k1,dM,hd1, -⟩:=rS underlying3 u1;obtain⟨k2,j2,hd2, -⟩:=rS underlying3 u2;obtain⟨k3,og,hd3, -⟩:=rS underlying3 u3;simp only[nW,n0] at fm dM j2 og;subst fm dM j2 og;have mJ:=hx.1;rw[jL,hd1,hd2,hd3] at mJ;simp only[ib,kK,nW,DataW.lit.injEq,Lit.string.injEq,Lit.int.injEq,n0,true_and] at mJ;obtain⟨e0,e1,e2,e3⟩:=mJ;subst e1 e2 e3;rw[e0]
theorem IV (K:Nat) (h1:1≤K) (h2:K≤24):∃l,(Rows.laid_scanfail_pats_shapes (H:=Unit))=.agg l∧l[K]? =some (.agg [.lit (.string (aQ K).data.toList),.lit (.int .i64 (aE K)),.lit (.int .i64 (co K)),.lit (.int .i64 (cD K))]):=by
 refine⟨_,rfl, ?_⟩;have h:K=1∨K=2∨K=3∨K=4∨K=5∨K=6∨K=7∨K=8∨K=9∨K=10∨K=11∨K=12∨K=13∨K=14∨K=15∨K=16∨K=17∨K=18∨K=19∨K=20∨K=21∨K=22∨K=23∨K=24:=by omega
 rcases h with rfl | rfl | rfl | rfl | rfl | rfl | rfl | rfl | rfl | rfl | rfl | rfl | rfl | rfl | rfl | rfl | rfl | rfl | rfl | rfl | rfl | rfl | rfl | rfl <;> rfl
theorem JM {W:World} {rest:List (String × DataW Unit)} (h:laidMet prog (("scanfail/pats.shapes",Rows.laid_scanfail_pats_shapes)::rest) W):dI W:=by
 obtain⟨ps,⟨g',t',cs,fuel,p,q,hg',ht',yO,hd, -, -⟩, -⟩:=h;have hg:prog.globalNamed "scanfail/pats.shapes" =some 1:=by kernel_rfl
 have hty:(prog.globals[1]?).map (·.type)=some 163:=by kernel_rfl
 obtain rfl:=k8 (hg.symm.trans hg');obtain rfl:=k8 (hty.symm.trans ht');intro K h1 h2;obtain⟨l,hl,l9⟩:=IV K h1 h2;rw[hl] at hd;obtain⟨xs,m, -,hx,oe,hxl,hf⟩:=DataW.trod_array underlying163 hd;simp only[nX,DataW.agg.injEq] at hx;have hK:=hf K (by omega)
 rw[Dd] at hK;have hxK:∃y,xs[K]? =some y∧y.1=.agg [.lit (.string (aQ K).data.toList),.lit (.int .i64 (aE K)),.lit (.int .i64 (co K)),.lit (.int .i64 (cD K))]:=by
  rw[hx.1,rP] at l9
  cases hy:xs[K]? with
  | none=>rw[hy] at l9;cases l9
  | some y=>rw[hy] at l9;exact⟨y,rfl,k8 l9⟩
 obtain⟨⟨y1,y2⟩,hy,hyd⟩:=hxK;simp only at hyd;rw[hy,hyd] at hK;have aV:=IX hK;have hc:∀j,j < 4→W.cell? ⟨1,K * 4+j,none⟩=((cs.toList.drop (K * 4)).take 4)[j]? :=fun j hj=>by
  have h3:=World.var?_cell hg yO (K * 4+j);rw[h3,List.getElem?_take,af hj,List.getElem?_drop,th]
 rw[aV] at hc;exact⟨hc 0 (by omega),hc 1 (by omega),hc 2 (by omega),hc 3 (by omega)⟩
open Go.ChangeShapes Go.WideShapes Go.ChangeAt Go.RowKit Go.Deep
theorem BB:prog.cellsOf 27=5:=by kernel_rfl
theorem Bk:prog.cellsOf 3=1:=by kernel_rfl
theorem zB:prog.cellsOf 9=1:=by kernel_rfl
theorem L3:prog.cellsOf 25=1:=by kernel_rfl
theorem BF {H:Type}:∀(l:List (DataW H)) (x:DataW H),x ∈ l→Rows.uptoBulk x≤Rows.uptoBulkAll l
 | [],x,h=>by simp at h
 | y::l,x,h=>by
  simp only[Rows.uptoBulkAll];rcases dU.1 h with rfl | h
  ·omega
  ·have:=BF l x h;omega
theorem A7 {H:Type} (D:Nat→DataW H) (f:Nat→Nat):∀n,(∀i,i < n→f i≤Rows.uptoBulk (D i))→eU f n≤Rows.uptoBulkAll ((List.range n).map D)
 | 0,_=>cU _
 | n+1,h=>by
  have ih:=A7 D f n (fun i hi=>h i (by omega))
  have hn:=h n (by omega)
  have happ:∀(a:List (DataW H)) (x:DataW H),Rows.uptoBulkAll (a++[x])=Rows.uptoBulkAll a+Rows.uptoBulk x:=by
   intro a x
   induction a with
   | nil=>simp[Rows.uptoBulkAll]
   | cons y a iha=>simp only[List.cons_append,Rows.uptoBulkAll,iha];omega
  rw[List.range_succ,qA,ib,kK,happ];simp only[eU];omega
theorem Ly {H:Type} {enc:TypeId × Value→H} {W:World}:∀(N fuel:Nat) (cs:List Value) (d:DataW H) (pl:List MemPlace),Rows.uptoBulk d≤N→
  DataW.trod enc prog W 0 (fun _=>true) true fuel 27 cs=some (d,pl)→
  ∃T:PT,T.In W∧cs=[.int .i64 T.k,.string T.t,.int .i64 T.n,.string T.nm,.slice T.xa T.len T.cap]∧T.cnt≤Rows.uptoBulk d:=by
 intro N
 induction N with
 | zero=>
  intro fuel cs d pl hN h;obtain⟨xs,n, -,hx, -⟩:=xE underlying27 h;simp only[nX] at hx;rw[hx.1] at hN;simp[Rows.uptoBulk] at hN
 | succ N ihN=>
  intro fuel cs d pl hN h;obtain⟨xs,n, -,hx,hl,lh,hf⟩:=xE underlying27 h;rw[BB] at hl;simp only[nX] at hx;obtain⟨rfl, -⟩:=hx
  replace lh:xs.length=5:=lh
  match xs,lh,cs,hl with
  | [x0,x1,x2,x3,x4],_,[c0,c1,c2,c3,c4],_=>
   have u0:=hf 0 _ rfl;have u1:=hf 1 _ rfl;have u2:=hf 2 _ rfl;have u3:=hf 3 _ rfl;have u4:=hf 4 _ rfl;simp[Bk] at u0 u2;simp[zB] at u1 u3;simp[L3] at u4;obtain⟨k,fm,jL,gh⟩:=rS underlying3 u0;obtain⟨t,dM,hd1,gW⟩:=pM underlying9 u1;obtain⟨m,j2,hd2,gH⟩:=rS underlying3 u2;obtain⟨nm,og,hd3,vk⟩:=pM underlying9 u3;simp only[nW,n0] at fm dM j2 og;subst fm dM j2 og;have r0: -9223372036854775808≤k∧k≤9223372036854775807:=by simpa [Lit.wf,show IntKind.i64.min= -9223372036854775808 from rfl] using gh
   have r2: -9223372036854775808≤m∧m≤9223372036854775807:=by simpa [Lit.wf,show IntKind.i64.min= -9223372036854775808 from rfl] using gH
   rcases open_slice underlying25 u4 with ⟨mb,cy⟩ | ⟨a,len,cap,mm,q,D,Pl,mb,_,hlc,hcm,rZ,cy,jW⟩
   ·simp only[nW,n0] at mb
    subst mb;refine⟨.node k t m nm none 0 0 0 0 fun i=>i.elim0,⟨r0,gW,r2,vk,cU _,ax _,fun h=>absurd h (xG 0),fun i=>i.elim0⟩,rfl, ?_⟩
    simp[PT.cnt,eU,Rows.uptoBulk]
   ·simp only[nW,n0] at mb
    subst mb;simp only[if_true] at rZ;rw[BB] at jW;have io:∀i,i < len→∃T:PT,T.In W∧W.cells? 0 (a.add (i * 5)) 5=some [.int .i64 T.k,.string T.t,.int .i64 T.n,.string T.nm,.slice T.xa T.len T.cap]∧T.cnt≤Rows.uptoBulk (D i):=by
     intro i hi;obtain⟨cs',h1,h2⟩:=jW i (by omega)
     have CL:Rows.uptoBulk (D i)≤N:=by
      have h3:=BF ((List.range len).map D) (D i) (List.mem_map.2 ⟨i,List.mem_range.2 hi,rfl⟩);rw[cy] at hN;simp[Rows.uptoBulk,Rows.uptoBulkAll] at hN;omega
     obtain⟨T,hT,aV,yT⟩:=ihN q cs' (D i) (Pl i) CL h2;exact⟨T,hT,by rw[h1,aV],yT⟩
    obtain⟨b,o,spot⟩:=a;have vj:0 < len→spot=none:=fun hp=>by
     obtain⟨T, -,hc, -⟩:=io 0 hp;obtain⟨-,cM,qB⟩:=yJ hc
     simpa [Addr.add] using World.cell?_spot (qB 0 (by omega))
    refine⟨.node k t m nm (some ⟨b,o,spot⟩) b o len cap fun i=>(io i.val i.isLt).choose,⟨r0,gW,r2,vk,by omega,hlc,fun hp=> ?_,fun i=> ?_⟩,rfl, ?_⟩
    ·rw[vj hp]
    ·obtain⟨i,hi⟩:=i
     obtain⟨hT,hc, -⟩:=(io i hi).choose_spec;show (W.cell? ⟨b,o+i * 5,none⟩=some (.int .i64 (io i hi).choose.k)∧W.cell? ⟨b,o+i * 5+1,none⟩=some (.string (io i hi).choose.t)∧W.cell? ⟨b,o+i * 5+2,none⟩=some (.int .i64 (io i hi).choose.n)∧W.cell? ⟨b,o+i * 5+3,none⟩=some (.string (io i hi).choose.nm)∧W.cell? ⟨b,o+i * 5+4,none⟩=some (io i hi).choose.kv)∧PT.In W (io i hi).choose;generalize (io i hi).choose=T at hT hc ⊢;obtain⟨-,cM,qB⟩:=yJ hc;obtain rfl:=vj (by omega)
     have hj:∀j,(h:j < 5)→W.cell? ⟨b,o+i * 5+j,none⟩=[Value.int .i64 T.k,.string T.t,.int .i64 T.n,.string T.nm,.slice T.xa T.len T.cap][j]? :=fun j h=>by
      have:=qB j h;rw[nY,nY] at this;rw[this]
     exact⟨⟨hj 0 (by omega),hj 1 (by omega),hj 2 (by omega),hj 3 (by omega),hj 4 (by omega)⟩,hT⟩
    ·have AF:=A7 D (kf len 1 fun i=>((io i.val i.isLt).choose).cnt) len (fun i hi=>by rw[sS hi];exact(io i hi).choose_spec.2.2)
     rw[cy];simp only[PT.cnt,ib,kK,Rows.uptoBulk,Rows.uptoBulkAll];omega
end Go.Proofs.YtlmnjbipfacniaaGreatDoor
