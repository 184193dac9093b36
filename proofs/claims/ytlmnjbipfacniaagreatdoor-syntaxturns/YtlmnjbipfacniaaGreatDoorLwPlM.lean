/- The closed fact of chapter 10's statements. What the law abo -/
import Derived.Test.YtlmnjbipfacniaaGreatDoorLnBM
import Derived.Test.YtlmnjbipfacniaaGreatDoorLxWalkBM
import Derived.Test.YtlmnjbipfacniaaGreatDoorSyKM
set_option maxRecDepth 100000
set_option maxHeartbeats 2000000
namespace Go.Proofs.YtlmnjbipfacniaaGreatDoor
open Go.Proofs.Tryz
open Go.RowKit
def tAl:ByteArray:=⟨#[76,32,88,32,61,32,39,97,39,32,38,32,50,32,58,83,40,77,41]⟩
def sAl:SV:=⟨⟨#[76]⟩,3,aI 3 ByteArray.empty 0 ⟨#[88]⟩ [],aI 8 ByteArray.empty 0 ByteArray.empty [aI 1 ⟨#[97]⟩ 0 ByteArray.empty [],aI 2 ByteArray.empty 2 ByteArray.empty []],PT.nul,ByteArray.empty,ByteArray.empty,dj [],dj [],ByteArray.empty,⟨#[77]⟩,ByteArray.empty⟩
theorem EQ:ar (cj sAl)=[76,32,88,32,61,32,39,97,39,32,38,32,50,32,58,83,40,77,41]:=by kernel_rfl
theorem JQ:sAl.wrong=0:=by kernel_rfl
theorem sAl_ln:mC tAl=.ok (some sAl.bst):=by
 have h:=G7 JQ (show sAl.tg.ns from ⟨by decide,fun i=>i.elim0⟩) (show sAl.va.ns from ⟨by decide,fun i=>by
  obtain⟨i,hi⟩:=i;have hi:i < 2:=hi;have h:i=0∨i=1:=by omega
  rcases h with rfl | rfl
  ·exact⟨by decide,fun i=>i.elim0⟩
  ·exact⟨by decide,fun i=>i.elim0⟩⟩) (by rw[EQ];decide)
 rw[EQ] at h;exact h
theorem Dg (w:World) (hW:SyW w) (m:Int) (hm:w.cell? ⟨2,0,none⟩=some (.int .i64 m)):Calls prog 6 #[] w fun e w'=>e=.returned (.bool true)∧Below w.heap.size w w':=by
 have HL:=ab (A9 tAl w (by decide) hW m hm)
 have HP:=ab sAl_ln;unfold tAl at HL HP;clear hW hm;go_enter func6,ntmps6;go_wp2_with fail;refine(aa HL).mono ?_;rintro e w1 ⟨hb1, -, -,gi⟩;obtain⟨S,rfl,hS, -⟩:=gi _ (aa HP);obtain⟨C,hC⟩:∃C,C=S.cells:=⟨_,rfl⟩;have dc:S.v=.agg C:=by rw[hC];rfl
 have dL:Hid (C.size=24):=ab (by rw[hC];rfl)
 have cK:Hid (C.all (·.oneCell')=true):=ab (by rw[hC];exact SV.cells_one _)
 have k0:S.lab=⟨#[76]⟩:=aJ SV.lab hS;have k1:S.k=3:=aJ SV.k hS;have k7:S.va.k=8:=by
  have h:=aJ (fun U:SV=>U.va.k) hS
  have e:S.can.va.k=S.va.k:=rF S.va;rw[←e];exact h
 have k22:S.ye=⟨#[77]⟩:=aJ SV.ye hS;have uf:Hid (C[0]? =some (.string ⟨#[76]⟩)∧C[1]? =some (.int .i64 3)∧C[7]? =some (.int .i64 8)∧C[22]? =some (.string ⟨#[77]⟩)):=ab (⟨by rw[hC,←k0];rfl,by rw[hC,←k1];rfl,by rw[hC,←k7];rfl,by rw[hC,←k22];rfl⟩)
 have bf:=ab hb1;rw[dc];unfold du;clear gi hS hC dc k0 k1 k7 k22 hb1 HL HP;have fq:Hid (((w1.alloc (.cells Z24 30)).alloc (.cells #[.int .i64 0,.int .i64 0] 36)).heap[w1.heap.size]? =some (.cells bh.cells 30 (0,0))):=ab (bL (by simp) (aw rfl))
 have fd:Hid ((((w1.alloc (.cells Z24 30)).alloc (.cells #[.int .i64 0,.int .i64 0] 36)).setRow w1.heap.size C).heap[w1.heap.size+1]? =some (.cells #[.int .i64 0,.int .i64 0] 36 (0,0))):=ab ((dH _ _ _ _ (by omega)).trans (aw (by simp)))
 obtain⟨W2,ep⟩:∃W,W=qx w1 C 0 0:=⟨_,rfl⟩;have gN:=ab (uL w1 C 0 0);rw[←ep] at gN;have bi:=ab ep;clear ep;go_upto_region 2 with (first
  | (refine aX rfl 30 _ _ rfl w1.heap.size C rfl rfl 30 bh.cells (by with_reducible exact aa fq) (cn.trans (by rw[aa dL])) (by rw[aa dL];rfl) (aa cK) ?_)
  | (refine aX rfl 36 _ _ rfl (w1.heap.size+1) #[.int .i64 0,.int .i64 0] rfl rfl 36 #[.int .i64 0,.int .i64 0] (by with_reducible exact aa fd) fy rfl (by simp[Value.oneCell']) ?_)
  | fail)
 rw[show ((((w1.alloc (.cells Z24 30)).alloc (.cells #[.int .i64 0,.int .i64 0] 36)).setRow w1.heap.size C).setRow (w1.heap.size+1) #[.int .i64 0,.int .i64 0])=W2 from (aa bi).symm];clear fq fd bi;obtain⟨gJ,lj,iF⟩:=aa gN;obtain⟨c0,c1,c7,nA⟩:=aa uf;have e0:=aY lj c0;have e1:=aY lj c1;have e7:=aY lj c7;have vv:=aY lj nA;obtain⟨f0, -⟩:=jj iF;have aF:=ab (ap (aa bf) gJ);clear gJ lj iF c0 c1 c7 nA gN uf;go_wp2_with fail;go_ret;exact⟨rfl,aa aF⟩
open Go.RowKit
theorem Gq {s:ByteArray} {er:Int} {a:Nat} (h:mC s=.error (er,a)):er≠0:=by
 unfold mC at h;split at h
 ·cases h
 ·split at h
  ·rename_i q
   injection h with h
   injection h with h1 h2
   rw[←h1];omega
  ·cases hr:oG s (gc s).1 with
   | error e=>
    rw[hr] at h;injection h with h
    subst h;exact Cc s _ _ _ hr
   | ok x=>
    rw[hr] at h;dsimp only at h;split at h
    ·cases h
    ·injection h with h
     injection h with h1 h2
     rw[←h1];decide
theorem prA_ok {S:SV} (h:(iy S).2=0):S.wrong=0∧(ar (cj S)).length≤2000∧(iy S).1=⟨(ar (cj S)).toArray⟩:=by
 unfold iy at h ⊢
 by_cases h1:S.wrong≠0
 ·rw[af h1] at h;exact absurd h h1
 ·rw[ac h1] at h ⊢
  by_cases h2:(S.k=4∨S.k=5∨S.k=6)∧65536 < S.pa.txt.length
  ·rw[af h2] at h;exact absurd h (by decide)
  ·rw[ac h2] at h ⊢
   by_cases h3:eN (ar (cj S))=true
   ·rw[af h3] at h;exact absurd h (by decide)
   ·rw[ac h3] at h ⊢
    by_cases h4:2000 < (ar (cj S)).length
    ·rw[af h4] at h;exact absurd h (by decide)
    ·rw[ac h4]
     exact⟨Classical.byContradiction h1,Nat.le_of_not_lt h4,rfl⟩
theorem EY {S:SV} (h:S.wrong=0):(iy S).2=0∨(iy S).2=4∨(iy S).2=2:=by
 unfold iy;rw[ac (fun q=>q h)]
 split
 ·exact .inr (.inl rfl)
 ·split
  ·exact .inr (.inr rfl)
  ·split
   ·exact .inr (.inl rfl)
   ·exact .inl rfl
theorem zU {S:SV} {w:World} (hS:S.In w) (h:(iy S).2=0):S.wrong=0∧(iy S).1.size≤maxLen∧mC (iy S).1=.ok (some S.bst):=by
 obtain⟨h1,h2,h3⟩:=prA_ok h;refine⟨h1, ?_, ?_⟩
 ·rw[h3]
  show (ar (cj S)).toArray.size≤maxLen;rw[wo];unfold maxLen;omega
 ·rw[h3]
  exact G7 h1 (G2 _ hS.tg) (G2 _ hS.va) h2
theorem Fh {t:ByteArray} {P U:SV} (h:mC t=.ok (some P)) (hU:U.can=P):U.wrong=0∧U.bst=P:=by
 obtain⟨h1,h2, -, -⟩:=LK (fun x hx=>by have:=(Bs t x hx).2.1;omega) h
 exact⟨by rw[←JF,hU];exact h1,by rw[←MA,hU];exact h2⟩
end Go.Proofs.YtlmnjbipfacniaaGreatDoor
