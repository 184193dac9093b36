/- The table of kinds, out of what the row lists. A pattern tha -/
import Derived.Test.YtlmnjbipfacniaaGreatDoorRows
import Derived.Test.YtlmnjbipfacniaaGreatDoorPatWrongPs
import Derived.ProofKit
import Derived.OpenShut
import Derived.LaidLaws
import Derived.Lib.LaidTab
import Derived.Test.YtlmnjbipfacniaaGreatDoorPatBaseMs
import Derived.Deep.Slices
import Derived.WalkKit
set_option maxRecDepth 100000
namespace Go.Proofs.YtlmnjbipfacniaaGreatDoor
open Go.Proofs.Tryz
open Go.ChangeShapes Go.WideShapes Go.ChangeAt Go.RowKit
theorem CT:prog.cellsOf 162=4:=by kernel_rfl
theorem Da:prog.cellsOf 3=1:=by kernel_rfl
theorem C9:prog.cellsOf 9=1:=by kernel_rfl
theorem Ix {H:Type} {enc:TypeId × Value→H} {W:World} {base m:Nat} {spare:Nat→Bool} {held:Bool} {cs:List Value} {pl:List MemPlace} {s:List UInt8} {h a b:Int}
  (hd:DataW.trod enc prog W base spare held m 162 cs=some (.agg [.lit (.string s),.lit (.int .i64 h),.lit (.int .i64 a),.lit (.int .i64 b)],pl)):
  cs=[.string ⟨s.toArray⟩,.int .i64 h,.int .i64 a,.int .i64 b]:=by
 obtain⟨xs,n, -,hx,hl,lj,hf⟩:=xD underlying162 hd;rw[CT] at hl
 replace lj:xs.length=4:=lj
 simp only[nh,DataW.agg.injEq] at hx
 match xs,lj,cs,hl with
 | [x0,x1,x2,x3],_,[c0,c1,c2,c3],_=>
  have u0:=hf 0 _ rfl;have u1:=hf 1 _ rfl;have u2:=hf 2 _ rfl;have u3:=hf 3 _ rfl;simp[C9] at u0;simp[Da] at u1 u2 u3;obtain⟨t,eT,jB, -⟩:=qc underlying9 u0;obtain⟨k1,dF,tK, -⟩:=sd underlying3 u1;obtain⟨k2,jQ,hd2, -⟩:=sd underlying3 u2;obtain⟨k3,ow,hd3, -⟩:=sd underlying3 u3;simp only[mH,mI] at eT dF jQ ow;subst eT dF jQ ow;have mL:=hx.1;rw[jB,tK,hd2,hd3] at mL;simp only[fM,jM,mH,DataW.lit.injEq,Lit.string.injEq,Lit.int.injEq,mI,true_and] at mL;obtain⟨e0,e1,e2,e3⟩:=mL;subst e1 e2 e3;rw[e0]
theorem Iv (K:Nat) (h1:1≤K) (h2:K≤24):∃l,(Rows.laid_scanfail_pats_shapes (H:=Unit))=.agg l∧l[K]? =some (.agg [.lit (.string (aT K).data.toList),.lit (.int .i64 (aO K)),.lit (.int .i64 (cK K)),.lit (.int .i64 (cM K))]):=by
 refine⟨_,rfl, ?_⟩;have h:K=1∨K=2∨K=3∨K=4∨K=5∨K=6∨K=7∨K=8∨K=9∨K=10∨K=11∨K=12∨K=13∨K=14∨K=15∨K=16∨K=17∨K=18∨K=19∨K=20∨K=21∨K=22∨K=23∨K=24:=by omega
 rcases h with rfl | rfl | rfl | rfl | rfl | rfl | rfl | rfl | rfl | rfl | rfl | rfl | rfl | rfl | rfl | rfl | rfl | rfl | rfl | rfl | rfl | rfl | rfl | rfl <;> rfl
theorem Jo {W:World} {rest:List (String × DataW Unit)} (h:laidMet prog (("scanfail/pats.shapes",Rows.laid_scanfail_pats_shapes)::rest) W):dA W:=by
 obtain⟨ps,⟨g',t',cs,fuel,p,q,hg',ht',yM,hd, -, -⟩, -⟩:=h;have hg:prog.globalNamed "scanfail/pats.shapes" =some 1:=by kernel_rfl
 have hty:(prog.globals[1]?).map (·.type)=some 163:=by kernel_rfl
 obtain rfl:=lK (hg.symm.trans hg');obtain rfl:=lK (hty.symm.trans ht');intro K h1 h2;obtain⟨l,hl,ma⟩:=Iv K h1 h2;rw[hl] at hd;obtain⟨xs,m, -,hx,ov,hxl,hf⟩:=DataW.trod_array underlying163 hd;simp only[nh,DataW.agg.injEq] at hx;have hK:=hf K (by omega)
 rw[CT] at hK;have hxK:∃y,xs[K]? =some y∧y.1=.agg [.lit (.string (aT K).data.toList),.lit (.int .i64 (aO K)),.lit (.int .i64 (cK K)),.lit (.int .i64 (cM K))]:=by
  rw[hx.1,qb] at ma
  cases hy:xs[K]? with
  | none=>rw[hy] at ma;cases ma
  | some y=>rw[hy] at ma;exact⟨y,rfl,lK ma⟩
 obtain⟨⟨y1,y2⟩,hy,hyd⟩:=hxK;simp only at hyd;rw[hy,hyd] at hK;have aS:=Ix hK;have hc:∀j,j < 4→W.cell? ⟨1,K * 4+j,none⟩=((cs.toList.drop (K * 4)).take 4)[j]? :=fun j hj=>by
  have h3:=World.var?_cell hg yM (K * 4+j);rw[h3,List.getElem?_take,af hj,List.getElem?_drop,sa]
 rw[aS] at hc;exact⟨hc 0 (by omega),hc 1 (by omega),hc 2 (by omega),hc 3 (by omega)⟩
open Go.ChangeShapes Go.WideShapes Go.ChangeAt Go.RowKit Go.Deep
theorem Bl:prog.cellsOf 27=5:=by kernel_rfl
theorem A7:prog.cellsOf 3=1:=by kernel_rfl
theorem zu:prog.cellsOf 9=1:=by kernel_rfl
theorem LC:prog.cellsOf 25=1:=by kernel_rfl
theorem Bp {H:Type}:∀(l:List (DataW H)) (x:DataW H),x ∈ l→Rows.uptoBulk x≤Rows.uptoBulkAll l
 | [],x,h=>by simp at h
 | y::l,x,h=>by
  simp only[Rows.uptoBulkAll];rcases dO.1 h with rfl | h
  ·omega
  ·have:=Bp l x h;omega
theorem AW {H:Type} (D:Nat→DataW H) (f:Nat→Nat):∀n,(∀i,i < n→f i≤Rows.uptoBulk (D i))→fy f n≤Rows.uptoBulkAll ((List.range n).map D)
 | 0,_=>cU _
 | n+1,h=>by
  have ih:=AW D f n (fun i hi=>h i (by omega))
  have hn:=h n (by omega)
  have happ:∀(a:List (DataW H)) (x:DataW H),Rows.uptoBulkAll (a++[x])=Rows.uptoBulkAll a+Rows.uptoBulk x:=by
   intro a x
   induction a with
   | nil=>simp[Rows.uptoBulkAll]
   | cons y a iha=>simp only[List.cons_append,Rows.uptoBulkAll,iha];omega
  rw[List.range_succ,oU,fM,jM,happ];simp only[fy];omega
theorem KZ {H:Type} {enc:TypeId × Value→H} {W:World}:∀(N fuel:Nat) (cs:List Value) (d:DataW H) (pl:List MemPlace),Rows.uptoBulk d≤N→
  DataW.trod enc prog W 0 (fun _=>true) true fuel 27 cs=some (d,pl)→
  ∃T:PT,T.In W∧cs=[.int .i64 T.k,.string T.t,.int .i64 T.n,.string T.nm,.slice T.xa T.len T.cap]∧T.cnt≤Rows.uptoBulk d:=by
 intro N
 induction N with
 | zero=>
  intro fuel cs d pl hN h;obtain⟨xs,n, -,hx, -⟩:=xD underlying27 h;simp only[nh] at hx;rw[hx.1] at hN;simp[Rows.uptoBulk] at hN
 | succ N ihN=>
  intro fuel cs d pl hN h;obtain⟨xs,n, -,hx,hl,lj,hf⟩:=xD underlying27 h;rw[Bl] at hl;simp only[nh] at hx;obtain⟨rfl, -⟩:=hx
  replace lj:xs.length=5:=lj
  match xs,lj,cs,hl with
  | [x0,x1,x2,x3,x4],_,[c0,c1,c2,c3,c4],_=>
   have u0:=hf 0 _ rfl;have u1:=hf 1 _ rfl;have u2:=hf 2 _ rfl;have u3:=hf 3 _ rfl;have u4:=hf 4 _ rfl;simp[A7] at u0 u2;simp[zu] at u1 u3;simp[LC] at u4;obtain⟨k,eT,jB,fV⟩:=sd underlying3 u0;obtain⟨t,dF,tK,gP⟩:=qc underlying9 u1;obtain⟨m,jQ,hd2,fm⟩:=sd underlying3 u2;obtain⟨nm,ow,hd3,vd⟩:=qc underlying9 u3;simp only[mH,mI] at eT dF jQ ow;subst eT dF jQ ow;have r0: -9223372036854775808≤k∧k≤9223372036854775807:=by simpa [Lit.wf,show IntKind.i64.min= -9223372036854775808 from rfl] using fV
   have r2: -9223372036854775808≤m∧m≤9223372036854775807:=by simpa [Lit.wf,show IntKind.i64.min= -9223372036854775808 from rfl] using fm
   rcases open_slice underlying25 u4 with ⟨mb,cv⟩ | ⟨a,len,cap,mm,q,D,Pl,mb,_,vh,vj,qn,cv,gM⟩
   ·simp only[mH,mI] at mb
    subst mb;refine⟨.node k t m nm none 0 0 0 0 fun i=>i.elim0,⟨r0,gP,r2,vd,cU _,aw _,fun h=>absurd h (wu 0),fun i=>i.elim0⟩,rfl, ?_⟩
    simp[PT.cnt,fy,Rows.uptoBulk]
   ·simp only[mH,mI] at mb
    subst mb;simp only[if_true] at qn;rw[Bl] at gM;have gE:∀i,i < len→∃T:PT,T.In W∧W.cells? 0 (a.add (i * 5)) 5=some [.int .i64 T.k,.string T.t,.int .i64 T.n,.string T.nm,.slice T.xa T.len T.cap]∧T.cnt≤Rows.uptoBulk (D i):=by
     intro i hi;obtain⟨cs',h1,h2⟩:=gM i (by omega)
     have Cp:Rows.uptoBulk (D i)≤N:=by
      have h3:=Bp ((List.range len).map D) (D i) (List.mem_map.2 ⟨i,List.mem_range.2 hi,rfl⟩);rw[cv] at hN;simp[Rows.uptoBulk,Rows.uptoBulkAll] at hN;omega
     obtain⟨T,hT,aS,yT⟩:=ihN q cs' (D i) (Pl i) Cp h2;exact⟨T,hT,by rw[h1,aS],yT⟩
    obtain⟨b,o,spot⟩:=a;have ra:0 < len→spot=none:=fun hp=>by
     obtain⟨T, -,hc, -⟩:=gE 0 hp;obtain⟨-,bU,nj⟩:=wt hc
     simpa [Addr.add] using World.cell?_spot (nj 0 (by omega))
    refine⟨.node k t m nm (some ⟨b,o,spot⟩) b o len cap fun i=>(gE i.val i.isLt).choose,⟨r0,gP,r2,vd,by omega,vh,fun hp=> ?_,fun i=> ?_⟩,rfl, ?_⟩
    ·rw[ra hp]
    ·obtain⟨i,hi⟩:=i
     obtain⟨hT,hc, -⟩:=(gE i hi).choose_spec;show (W.cell? ⟨b,o+i * 5,none⟩=some (.int .i64 (gE i hi).choose.k)∧W.cell? ⟨b,o+i * 5+1,none⟩=some (.string (gE i hi).choose.t)∧W.cell? ⟨b,o+i * 5+2,none⟩=some (.int .i64 (gE i hi).choose.n)∧W.cell? ⟨b,o+i * 5+3,none⟩=some (.string (gE i hi).choose.nm)∧W.cell? ⟨b,o+i * 5+4,none⟩=some (gE i hi).choose.kv)∧PT.In W (gE i hi).choose;generalize (gE i hi).choose=T at hT hc ⊢;obtain⟨-,bU,nj⟩:=wt hc;obtain rfl:=ra (by omega)
     have hj:∀j,(h:j < 5)→W.cell? ⟨b,o+i * 5+j,none⟩=[Value.int .i64 T.k,.string T.t,.int .i64 T.n,.string T.nm,.slice T.xa T.len T.cap][j]? :=fun j h=>by
      have:=nj j h;rw[lL,lL] at this;rw[this]
     exact⟨⟨hj 0 (by omega),hj 1 (by omega),hj 2 (by omega),hj 3 (by omega),hj 4 (by omega)⟩,hT⟩
    ·have Au:=AW D (kf len 1 fun i=>((gE i.val i.isLt).choose).cnt) len (fun i hi=>by rw[ta hi];exact(gE i hi).choose_spec.2.2)
     rw[cv];simp only[PT.cnt,fM,jM,Rows.uptoBulk,Rows.uptoBulkAll];omega
end Go.Proofs.YtlmnjbipfacniaaGreatDoor
