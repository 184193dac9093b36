/- The reader of lines, in memory: its small functions. The rea -/
import Derived.Test.YtlmnjbipfacniaaGreatDoorSyLeMs
import Derived.Test.YtlmnjbipfacniaaGreatDoorCkEMs
import Derived.Test.YtlmnjbipfacniaaGreatDoorRdIMs
import Derived.Test.YtlmnjbipfacniaaGreatDoorRegionInvMs
set_option maxRecDepth 100000
set_option maxHeartbeats 4000000
namespace Go.Proofs.YtlmnjbipfacniaaGreatDoor
open Go.Proofs.Tryz
open Go.RowKit
def wo (w:World) (g o:Nat) (l:List Tk):Prop:=∀(i:Nat) (t:Tk),l[i]? =some t→w.cell? ⟨g,o+i * 3,none⟩=some (.int .i64 (t.k:Int))∧w.cell? ⟨g,o+i * 3+1,none⟩=some (.string t.t)∧w.cell? ⟨g,o+i * 3+2,none⟩=some (.int .i64 (t.a:Int))
def uI (t:Tk):Prop:=t.k≤5∧t.t.size≤2000∧t.a≤2000∧(t.k=2→t.t.size≠0∧∀b ∈ t.t.data.toList,48≤b.toNat∧b.toNat≤57)
structure SyC where
 z:Nat
 E:Nat
 g:Nat
 bb:Nat
 n:Nat
def wn (t:ByteArray):Option Int:=if iD t=0 then none else some (iD t:Int)
structure Syr (C:SyC) (w:World) (l:List Tk) (o:Nat):Prop where
 blk:∃xa cap off,w.heap[C.z]? =some (.cells #[.slice xa l.length cap,.int .i64 (C.E:Int),.int .i64 (o:Int),.map (some C.bb)] 105 (0,0))∧l.length≤cap∧cap≤maxLen∧(l≠[]→xa=some ⟨C.g,off,none⟩)∧wo w C.g off l
 map:MI w C.bb C.n wn
 gl:C.g < w.heap.size
 ng:C.g≠C.z
 nb:C.bb≠C.z
 sm:∀t ∈ l,uI t
 en:C.E≤2000
def jt (t:Tk):Value:=.agg #[.int .i64 (t.k:Int),.string t.t,.int .i64 (t.a:Int)]
section
variable {C:SyC} {w w':World} {l:List Tk} {o:Nat}
theorem Syr.lt (h:Syr C w l o):C.z < w.heap.size:=by obtain⟨xa,cap,off,h1, -⟩:=h.blk;exact(bC.1 h1).1
theorem Syr.cap (h:Syr C w l o):l.length≤maxLen:=by obtain⟨xa,cap,off, -,h2,h3, -⟩:=h.blk;omega
theorem Syr.glt (h:Syr C w l o) (_:l≠[]):C.g < w.heap.size:=h.gl
theorem wo.same {g o:Nat} (h:wo w g o l) (hs:w'.heap[g]? =w.heap[g]?):wo w' g o l:=fun i t ht=>by
 have k:∀o,w'.cell? ⟨g,o,none⟩=w.cell? ⟨g,o,none⟩:=fun o=>by unfold World.cell?;rw[hs]
 rw[k,k,k];exact h i t ht
theorem EU {g:Nat} (h:g < w.heap.size) (hs:w'.heap[g]? =w.heap[g]?):g < w'.heap.size:=by
 rw[Array.getElem?_eq_getElem h] at hs;exact(bC.1 hs).1
theorem Syr.same (h:Syr C w l o) (hz:w'.heap[C.z]? =w.heap[C.z]?) (hg:w'.heap[C.g]? =w.heap[C.g]?) (hb:w'.heap[C.bb]? =w.heap[C.bb]?):Syr C w' l o:=by
 obtain⟨xa,cap,off,h1,h2,h3,h4,h5⟩:=h.blk;exact⟨⟨xa,cap,off,hz.trans h1,h2,h3,h4,h5.same hg⟩,h.map.below hb,EU h.gl hg,h.ng,h.nb,h.sm,h.en⟩
theorem Syr.below (h:Syr C w l o) (hb:Below w.heap.size w w'):Syr C w' l o:=h.same (hb.block _ h.lt) (hb.block _ h.gl) (hb.block _ h.map.lt)
theorem Syr.old {B:Nat} {v:World} {l0:List Tk} {o0:Nat} (h:Syr C w l o) (h0:Syr C v l0 o0) (hB:v.heap.size=B) (hb:∀k,k < B→w'.heap[k]? =w.heap[k]?):Syr C w' l o:=h.same (hb _ (hB▸h0.lt)) (hb _ (hB▸h0.gl)) (hb _ (hB▸h0.map.lt))
theorem Syr.put (h:Syr C w l o) {l':List Tk} {o':Nat} {xa:Option Addr} {cap off:Nat} (hb:But C.z w w') (jf:∀t ∈ l',t ∈ l)
  (h1:w'.heap[C.z]? =some (.cells #[.slice xa l'.length cap,.int .i64 (C.E:Int),.int .i64 (o':Int),.map (some C.bb)] 105 (0,0))) (h2:l'.length≤cap) (h3:cap≤maxLen) (h4:l'≠[]→xa=some ⟨C.g,off,none⟩) (h5:wo w C.g off l'):Syr C w' l' o':=
 ⟨⟨xa,cap,off,h1,h2,h3,h4,h5.same (hb.block _ h.gl h.ng)⟩,h.map.below (hb.block _ h.map.lt h.nb),EU h.gl (hb.block _ h.gl h.ng),h.ng,h.nb,fun t ht=>h.sm t (jf t ht),h.en⟩
theorem xq (h:Syr C w l o) (n:Nat):uI (ak C.E n l):=by
 unfold ak
 cases hq:l[n]? with
 | none=>exact⟨cU _,(by decide:ByteArray.empty.size≤2000),h.en,fun q=>absurd (show (0:Nat)=2 from q) (by decide)⟩
 | some t=>exact h.sm t (oS hq)
end
theorem ue (er:Int) (i:Nat) (w:World):Calls prog 95 #[.int .i64 er,.int .i64 (i:Int)] w fun e w'=>e=aC er i∧w'=w:=by
 go_enter func95,ntmps95;go_wp2;exact⟨rfl,rfl,rfl⟩
theorem idx3 {g o n cap i:Nat} (hi:i < n) (w:World):(Instr.indexAt 62 (.slice (some ⟨g,o,none⟩) n cap) (.int .i64 (i:Int))).run prog w=.ok (.pointer (some ⟨g,o+i * 3,none⟩)) w:=by
 have h0:(0:Int)≤(i:Int)∧(i:Int) < (n:Int):=by omega
 have hs:=ui
 cases hq:prog.info? 102 with
 | none=>simp[hq] at hs
 | some x=>
  have hz:x.size=3:=by simpa [hq] using hs
  simp[Instr.indexAt,asIntOf,run_underlying underlying62,h0,sizeOf,typeInfo,hq,hz,Addr.add_lit];intro h;omega
theorem xX {w:World}:(w.alloc (.cells uw 102)).heap[w.heap.size]? =some (.cells uw 102 (0,0)):=ax rfl
theorem zd {C:SyC} {l:List Tk} {o:Nat} (n:Nat) (w:World) (hR:Syr C w l o) (_hn:n≤1):Calls prog 97 #[.pointer (some ⟨C.z,0,none⟩),.int .i64 (n:Int)] w fun e w'=>e=.returned (jt (ak C.E n l))∧Below w.heap.size w w':=by
 have bd:Below w.heap.size w (w.alloc (.cells uw 102)):=ba _;have hzl:=hR.lt;have vj:=hR.cap;have hen:=hR.en;unfold maxLen at vj;rcases cG n l.length with h | h
 ·obtain⟨t,ht⟩:∃t,l[n]? =some t:=⟨l[n],gT _⟩
  have j8:=hR.glt (fun e=>by rw[e] at h;simp at h)
  obtain⟨xa,cap,off,h1,h2,h3,h4,h5⟩:=hR.blk;have l4:=h4 (fun e=>by rw[e] at h;simp at h)
  subst l4;obtain⟨t0,t1,t2⟩:=h5 n t ht;have c0:w.cell? ⟨C.z,0,none⟩=some (.slice (some ⟨C.g,off,none⟩) l.length cap):=cr h1;have jA:=fun W=>idx3 (g:=C.g) (o:=off) (cap:=cap) (n:=l.length) (i:=n) h W
  have HE:Hid (ak C.E n l=t):=ab (by unfold ak;rw[ht];rfl)
  have q0:¬(l.length:Int)≤(n:Int):=by omega
  have HB:=ab bd;clear hR h1 h4 h5 ht bd;go_enter func97,ntmps97;go_wp2_with (first
   | (refine bh rfl 102 _ _ rfl w.heap.size #[.int .i64 (t.k:Int),.string t.t,.int .i64 (t.a:Int)] rfl rfl 102 uw xX ui rfl (by simp[Value.oneCell']) ?_)
   | fail)
  (try simp only[Exit.inBlock,Exit.then])
  refine bK (dM rfl _ _ w.heap.size 102 #[.int .i64 (t.k:Int),.string t.t,.int .i64 (t.a:Int)] (0,0) _ rfl (bW _ _ _ _ _ _ xX) underlying102 rfl ui) rfl ?_;exact⟨by rw[aa HE];rfl,ed (aa HB) _ (aw _) _⟩
 ·obtain⟨xa,cap,off,h1,h2,h3,h4,h5⟩:=hR.blk
  have c0:w.cell? ⟨C.z,0,none⟩=some (.slice xa l.length cap):=cr h1;have c1:w.cell? ⟨C.z,1,none⟩=some (.int .i64 (C.E:Int)):=cr h1;have HE:Hid (ak C.E n l=⟨0,ByteArray.empty,C.E⟩):=ab (by unfold ak;rw[wq h];rfl)
  have q0:(l.length:Int)≤(n:Int):=by omega
  have HB:=ab bd;clear hR h1 h4 h5 bd;go_enter func97,ntmps97;go_wp2_with (first
   | (refine bh rfl 102 _ _ rfl w.heap.size #[.int .i64 0,.string ⟨#[]⟩,.int .i64 (C.E:Int)] rfl rfl 102 uw xX ui rfl (by simp[Value.oneCell']) ?_)
   | fail)
  (try simp only[Exit.inBlock,Exit.then])
  refine bK (dM rfl _ _ w.heap.size 102 #[.int .i64 0,.string ⟨#[]⟩,.int .i64 (C.E:Int)] (0,0) _ rfl (bW _ _ _ _ _ _ xX) underlying102 rfl ui) rfl ?_;exact⟨by rw[aa HE];rfl,ed (aa HB) _ (aw _) _⟩
theorem rH {C:SyC} {l:List Tk} {o:Nat} (w:World) (hR:Syr C w l o):Calls prog 94 #[.pointer (some ⟨C.z,0,none⟩)] w fun e w'=>e=.returned (jt (ak C.E 0 l))∧Below w.heap.size w w':=by
 have bd:Below w.heap.size w (w.alloc (.cells uw 102)):=ba _;have HA:=ab (zd 0 _ (hR.below bd) (by decide))
 have HB:=ab bd;generalize ak C.E 0 l=t at *;clear hR bd;go_enter func94,ntmps94;go_wp2_with fail;refine(aa HA).mono ?_;rintro e w2 ⟨rfl,hb2⟩;have am:=an xX hb2;have aE:=ab (aq (aa HB) hb2);have HX:=ab am;clear hb2 am;unfold jt;go_wp2_with (first
  | (refine bh rfl 102 _ _ rfl w.heap.size #[.int .i64 (t.k:Int),.string t.t,.int .i64 (t.a:Int)] rfl rfl 102 uw (aa HX) ui rfl (by simp[Value.oneCell']) ?_)
  | fail)
 (try simp only[Exit.inBlock,Exit.then])
 refine bK (dM rfl _ _ w.heap.size 102 #[.int .i64 (t.k:Int),.string t.t,.int .i64 (t.a:Int)] (0,0) _ rfl (bW _ _ _ _ _ _ (aa HX)) underlying102 rfl ui) rfl ?_;exact⟨rfl,ed (aa aE) _ (aw _) _⟩
theorem zL {C:SyC} {l:List Tk} {o:Nat} (w:World) (hR:Syr C w l o):Calls prog 106 #[.pointer (some ⟨C.z,0,none⟩)] w fun e w'=>e=.returned (.int .i64 ((ak C.E 0 l).a:Int))∧Below w.heap.size w w':=by
 have HA:=ab (rH w hR);generalize ak C.E 0 l=t at *;clear hR;have hfd:∀w:World,(Instr.field 102 (.agg #[.int .i64 (t.k:Int),.string t.t,.int .i64 (t.a:Int)]) 2).run prog w=.ok (.int .i64 (t.a:Int)) w:=fun _=>by kernel_rfl
 unfold jt at HA;go_enter func106,ntmps106;go_wp2_with fail;refine(aa HA).mono ?_;rintro e w2 ⟨rfl,hb2⟩;go_wp2_with fail;go_ret;exact⟨rfl,hb2⟩
theorem rJ {C:SyC} {l:List Tk} {o:Nat} (w:World) (hR:Syr C w l o):Calls prog 56 #[.pointer (some ⟨C.z,0,none⟩)] w fun e w'=>e=aC 2 (ak C.E 0 l).a∧Below w.heap.size w w':=by
 have HA:=ab (zL w hR);have HC:=ab (fun w=>ue 2 (ak C.E 0 l).a w)
 generalize (ak C.E 0 l).a=a at *;clear hR;go_enter func56,ntmps56;go_wp2_with fail;refine(aa HA).mono ?_;rintro e w2 ⟨rfl,hb2⟩;go_wp2_with (refine(aa HC _).mono ?_;rintro e w ⟨rfl,rfl⟩;unfold aC);exact⟨rfl,rfl,hb2⟩
def xA (off cap:Nat):Nat:=if cap=1 then off else off+3
theorem Ji (g off n cap:Nat) (w:World):
  (Instr.sliceAt 62 (.slice (some ⟨g,off,none⟩) (n+1) cap) (some (.int .i64 1)) none none).run prog w=.ok (.slice (some ⟨g,xA off cap,none⟩) n (cap - 1)) w:=by
 have hs:=ui
 cases hq:prog.info? 102 with
 | none=>simp[hq] at hs
 | some i=>
  have hz:i.size=3:=by simpa [hq] using hs
  have h1:(1:Int)≤((n+1:Nat):Int):=by omega
  have he:prog.underlying 62=some (.slice (prog.elem 62)):=by kernel_rfl
  have he2:prog.elem 62=102:=by kernel_rfl
  rw[run_sliceAt_slice _ _ _ _ _ _ he,run_slice_l _ _ _ _ _ he .i64 1 (by omega) h1,he2]
  simp only[sizeOf,typeInfo,sliced];unfold xA
  by_cases dF:cap=1
  ·simp[dF,hq,hz]
  ·have:¬cap=Int.toNat 1:=by simpa using dF
   simp[dF,hq,hz,Addr.add_lit]
theorem ug {C:SyC} {l:List Tk} {o:Nat} (w:World) (hR:Syr C w l o) (hl:l≠[]):Calls prog 96 #[.pointer (some ⟨C.z,0,none⟩)] w fun e w'=>e=.returned (.tuple #[])∧But C.z w w'∧Syr C w' l.tail o:=by
 obtain⟨xa,cap,off,h1,h2,h3,h4,h5⟩:=hR.blk;have l4:=h4 hl;subst l4;obtain⟨t,r,rfl⟩:∃t r,l=t::r:=by cases l with | nil=>exact absurd rfl hl | cons t r=>exact⟨t,r,rfl⟩
 rw[List.length_cons] at h2;have c0:w.cell? ⟨C.z,0,none⟩=some (.slice (some ⟨C.g,off,none⟩) (r.length+1) cap):=cr h1;have fz:=cN w C.z 0 _ _ h1;have hsl:=fun W=>Ji C.g off r.length cap W
 have HZ:=ab (show Syr C (w.setCell ⟨C.z,0,none⟩ (.slice (some ⟨C.g,xA off cap,none⟩) r.length (cap - 1))) r o from
  hR.put ((But.refl _ _).setCell 0 _) (fun t ht=>kH _ ht) (fB w C.z 0 _ _ _ h1) (by omega) (by omega) (fun _=>rfl) (fun i t ht=>by
   have hc:¬cap=1:=fun e=>by have:=(mG.1 ht).1;omega
   have:=h5 (i+1) t (by simpa using ht)
   unfold xA;rw[ac hc,show off+3+i * 3=off+(i+1) * 3 by omega]
   exact this))
 have HB:Hid (But C.z w (w.setCell ⟨C.z,0,none⟩ (.slice (some ⟨C.g,xA off cap,none⟩) r.length (cap - 1)))):=ab ((But.refl _ _).setCell 0 _);clear hR h1 h4 h5 hl;generalize xA off cap=off2 at *;go_enter func96,ntmps96;go_wp2_with fail;go_end0;exact⟨rfl,aa HB,aa HZ⟩
theorem eqT (a b:ByteArray):(a.toList==b.toList)=decide (a=b):=by
 by_cases h:a=b
 ·subst h;simp
 ·rw[db h,nc]
  intro k;rw[lW,lW] at k;exact h (ByteArray.ext (Array.toList_inj.1 k))
theorem uf (t:Tk) (s:ByteArray) (w:World):Calls prog 98 #[jt t,.string s] w fun e w'=>e=.returned (.bool (aL t s))∧Below w.heap.size w w':=by
 have HB:Hid (Below w.heap.size w (w.alloc (.cells #[.int .i64 (t.k:Int),.string t.t,.int .i64 (t.a:Int)] 102))):=ab (ba _);unfold jt
 by_cases h5:t.k=5
 ·have q:((t.k:Int)==5)=true:=bt
  have HE:Hid (aL t s=(t.t.toList==s.toList)):=ab (by unfold aL;rw[fk h5,Bool.true_and,eqT])
  clear h5;go_enter func98,ntmps98;go_wp2_with fail;go_ret;exact⟨by rw[aa HE];rfl,aa HB⟩
 ·have q:((t.k:Int)==5)=false:=bn
  have HE:Hid (aL t s=false):=ab (by unfold aL;rw[db h5,Bool.false_and])
  clear h5;go_enter func98,ntmps98;go_wp2_with fail;go_ret;exact⟨by rw[aa HE];rfl,aa HB⟩
theorem zg (t:Tk) (s:ByteArray) (w:World):Calls prog 99 #[jt t,.string s] w fun e w'=>e=.returned (.bool (fL t s))∧Below w.heap.size w w':=by
 have HB:Hid (Below w.heap.size w (w.alloc (.cells #[.int .i64 (t.k:Int),.string t.t,.int .i64 (t.a:Int)] 102))):=ab (ba _);unfold jt
 by_cases h5:t.k=1
 ·have q:((t.k:Int)==1)=true:=bt
  have HE:Hid (fL t s=(t.t.toList==s.toList)):=ab (by unfold fL;rw[fk h5,Bool.true_and,eqT])
  clear h5;go_enter func99,ntmps99;go_wp2_with fail;go_ret;exact⟨by rw[aa HE];rfl,aa HB⟩
 ·have q:((t.k:Int)==1)=false:=bn
  have HE:Hid (fL t s=false):=ab (by unfold fL;rw[db h5,Bool.false_and])
  clear h5;go_enter func99,ntmps99;go_wp2_with fail;go_ret;exact⟨by rw[aa HE];rfl,aa HB⟩
theorem isS_ne {E:Nat} {l:List Tk} {s:ByteArray} (h:aL (ak E 0 l) s=true):l≠[]:=by
 rintro rfl
 revert h
 exact(fun h=>by unfold aL ak at h;simp at h)
theorem pJ {C:SyC} {l:List Tk} {o:Nat} (s:ByteArray) (w:World) (hR:Syr C w l o) (hs:aL (ak C.E 0 l) s=true):Calls prog 104 #[.pointer (some ⟨C.z,0,none⟩),.string s] w fun e w'=>e=.returned (.bool true)∧But C.z w w'∧Syr C w' l.tail o:=by
 have HA:=ab (rH w hR);have HR:=ab hR;have HI:=ab (fun w=>uf (ak C.E 0 l) s w)
 have HP:=ab (fun w h=>ug (l:=l) (o:=o) (C:=C) w h (isS_ne hs))
 rw[hs] at HI;clear hR hs;generalize ak C.E 0 l=t at *;generalize jt t=tv at *;go_enter func104,ntmps104;go_wp2_with fail;refine(aa HA).mono ?_;rintro e w2 ⟨rfl,hb2⟩;have aE:=ab hb2;clear hb2;go_wp2_with fail;refine(aa HI _).mono ?_;rintro e w3 ⟨rfl,hb3⟩;have oD:=ab (((aa HR).below (aa aE)).below hb3);have ao:=ab (aq (aa aE) hb3);clear hb3;go_wp2_with fail;refine(aa HP _ (aa oD)).mono ?_;rintro e w4 ⟨rfl,hb4,hR4⟩;have HZ:Hid (But C.z w w4∧Syr C w4 l.tail o):=ab (⟨(But.of_below (aa ao)).trans hb4,hR4⟩);clear hb4 hR4;go_wp2_with fail;go_ret;exact⟨rfl,aa HZ⟩
theorem pK {C:SyC} {l:List Tk} {o:Nat} (s:ByteArray) (w:World) (hR:Syr C w l o) (hs:aL (ak C.E 0 l) s=false):Calls prog 104 #[.pointer (some ⟨C.z,0,none⟩),.string s] w fun e w'=>e=.returned (.bool false)∧Below w.heap.size w w':=by
 have HA:=ab (rH w hR);have HI:=ab (fun w=>uf (ak C.E 0 l) s w)
 rw[hs] at HI;clear hR hs;generalize ak C.E 0 l=t at *;generalize jt t=tv at *;go_enter func104,ntmps104;go_wp2_with fail;refine(aa HA).mono ?_;rintro e w2 ⟨rfl,hb2⟩;have aE:=ab hb2;clear hb2;go_wp2_with fail;refine(aa HI _).mono ?_;rintro e w3 ⟨rfl,hb3⟩;have ao:=ab (aq (aa aE) hb3);clear hb3;go_wp2_with fail;go_ret;exact⟨rfl,aa ao⟩
def fJ {α:Type} (V:α→Ending→World→Prop) (C:SyC) (o:Nat) (w:World) (R:Sy α) (e:Ending) (w':World):Prop:=
 But C.z w w'∧(match R with | .ok x=>V x.1 e w'∧Syr C w' x.2 o | .error x=>e=aC x.1 x.2)
section
variable {α:Type} {V:α→Ending→World→Prop} {C:SyC} {o:Nat} {w w':World} {R:Sy α} {e:Ending}
theorem nS {a:α} {j:List Tk} (h:R=.ok (a,j)) (hb:But C.z w w') (hv:V a e w') (hr:Syr C w' j o):fJ V C o w R e w':=by subst h;exact⟨hb,hv,hr⟩
theorem fu {er:Int} {i:Nat} (h:R=.error (er,i)) (hb:But C.z w w') (he:e=aC er i):fJ V C o w R e w':=by subst h;exact⟨hb,he⟩
theorem dt {a:α} {j:List Tk} (h:fJ V C o w R e w') (hr:R=.ok (a,j)):But C.z w w'∧V a e w'∧Syr C w' j o:=by subst hr;exact⟨h.1,h.2.1,h.2.2⟩
theorem dr {er:Int} {i:Nat} (h:fJ V C o w R e w') (hr:R=.error (er,i)):But C.z w w'∧e=aC er i:=by subst hr;exact h
end
def Ce (_:Unit) (e:Ending) (_:World):Prop:=e=.returned (.tuple #[])
theorem sS {C:SyC} {l:List Tk} {o:Nat} (s:ByteArray) (w:World) (hR:Syr C w l o):Calls prog 101 #[.pointer (some ⟨C.z,0,none⟩),.string s] w fun e w'=>fJ Ce C o w (ef C.E s l) e w':=by
 unfold ef
 cases hs:aL (ak C.E 0 l) s
 ·have HT:=ab (pK s w hR hs)
  have HS:=ab (fun w h=>rJ (C:=C) (l:=l) (o:=o) w h)
  have HR:=ab hR;rw[ac (by decide)]
  show Calls _ _ _ _ fun e w'=>fJ Ce C o w (.error (2,(ak C.E 0 l).a)) e w'
  clear hR hs;generalize (ak C.E 0 l).a=a at *;go_enter func101,ntmps101;go_wp2_with fail;refine(aa HT).mono ?_;rintro e w2 ⟨rfl,hb2⟩;have aE:=ab hb2;clear hb2;go_wp2_with fail;refine(aa HS _ ((aa HR).below (aa aE))).mono ?_;rintro e w3 ⟨rfl,hb3⟩;have ao:=ab (aq (aa aE) hb3);clear hb3;unfold aC;go_wp2_with fail;exact⟨rfl,fu rfl (But.of_below (aa ao)) rfl⟩
 ·have HT:=ab (pJ s w hR hs)
  rw[af rfl];show Calls _ _ _ _ fun e w'=>fJ Ce C o w (.ok ((),l.tail)) e w'
  clear hR hs;go_enter func101,ntmps101;go_wp2_with fail;refine(aa HT).mono ?_;rintro e w2 ⟨rfl,hb2,cX⟩;have aE:=ab hb2;have HR2:=ab cX;clear hb2 cX;go_wp2_with fail;go_end0;exact nS rfl (aa aE) rfl (aa HR2)
open Go.RowKit
theorem KidsL.snoc {B z:Nat} {w w4 w6:World} {v v':Value} {L l:List PT} {U:PT} (h:KidsL B w v L l) (hB:B≤w.heap.size) (hb:But z w w4) (hz:z < B) (hL:bf w.heap.size w4 U)
  (aS:bP w6 B 27 5 eH v' (L++[U])) (hg:(w4.alloc (.cells (ai U) 27)).grownBy w6 v.ownBlock) (hn:v'.ownBlock=v.ownBlock∨v'.ownBlock=some (w4.alloc (.cells (ai U) 27)).heap.size):KidsL B w6 v' (L++[U]) (l++[U.can]):=by
 have hb5:Below w4.heap.size w4 (w4.alloc (.cells (ai U) 27)):=ba _;refine⟨aS,by rw[oU,h.can];rfl,fun x hx=> ?_⟩
 rcases uQ.1 hx with hx | hx
 ·exact(((h.lies x hx).but hb hz).below hb5).grown hg hn
 ·rw[jv] at hx
  subst hx;exact(((hL.except hB fun i hi=>(h.row.low hi).2)).below hb5).grown hg hn
theorem oJ {B k:Nat} {w w':World} {v:Value} {L:List PT} {x:Obj} (hr:bP w B 27 5 eH v L) (hg:w.grownBy w' v.ownBlock) (hk:w.heap[k]? =some x) (hb:k < B):w'.heap[k]? =some x:=
 (hg.block k (bC.1 hk).1 fun e=>by have:=(hr.low e.symm).1;omega).trans hk
theorem JV {B z:Nat} {w W W':World} {v:Value} {L:List PT} (hr:bP W B 27 5 eH v L) (hg:W.grownBy W' v.ownBlock) (hb:But z w W) (hB:w.heap.size≤B):But z w W':=
 ⟨hg.os.trans hb.os,hg.tape.trans hb.tape,hg.output.trans hb.output,bv hb.size hg.size,fun k hk hz=>(hg.block k (gL hk hb.size) fun e=>by have:=(hr.low e.symm).1;omega).trans (hb.block k hk hz)⟩
theorem vS {w:World} {U:PT}:∀k u,(eH U)[k]? =some u→(w.alloc (.cells (ai U) 27)).cell? ⟨w.heap.size,k,none⟩=some u:=fun k u h=>by
 rw[eB _ _ _ _ _ _ (ax rfl),←sa];exact h
theorem KV (d:Nat) (B:Nat→Rd PT) (s:ByteArray) (f:Nat) (l:List PT) (i:Nat):mA d B s (f+1) l i=if kB (nx s i)=true then bJ (ia d B s (sk s i)) fun p j=>mA d B s f (l++[p]) j else .ok (l,sk s i):=rfl
theorem LT (d:Nat) (B:Nat→Rd PT) (s:ByteArray) (f:Nat) (l:List PT) (i:Nat):mF d B s (f+1) l i=if nx s i=124 then bJ (iC d B s (sk s i+1)) fun p j=>mF d B s f (l++[p]) j else .ok (l,sk s i):=rfl
structure Kds (w:World) (z:Nat) (s:ByteArray) (o:Int) (wr:World) (v:Value) (k:Nat) (l L:List PT):Prop where
 rdr:bQ wr z s k o
 but:But z w wr
 box:wr.heap[w.heap.size]? =some (.cells aB 27 (0,0))
 kids:KidsL (w.heap.size+1) wr v L l
 nonil:L≠[]
 shp:dA wr
theorem Kds.next {w:World} {z:Nat} {s:ByteArray} {o:Int} {wr w':World} {v:Value} {k j:Nat} {l L:List PT} (h:Kds w z s o wr v k l L) (hb:But z wr w') (hR:bQ w' z s j o) (hz:z < w.heap.size) (hzG:z≠1):Kds w z s o w' v j l L:=
 ⟨hR,h.but.trans hb,dK hb h.box (by omega),h.kids.but hb (by omega),h.nonil,h.shp.but hb hzG⟩
theorem Kds.size {w:World} {z:Nat} {s:ByteArray} {o:Int} {wr:World} {v:Value} {k:Nat} {l L:List PT} (h:Kds w z s o wr v k l L):w.heap.size+1≤wr.heap.size:=(bC.1 h.box).1
theorem Kds.put {w:World} {z:Nat} {s:ByteArray} {o:Int} {w3 w4 w6:World} {v v':Value} {k j:Nat} {l L:List PT} {U:PT} (h:Kds w z s o w3 v k l L) (hb:But z w3 w4) (hR:bQ w4 z s j o) (hz:z < w.heap.size) (hL:bf w3.heap.size w4 U) (hzG:z≠1) (hG:1 < w.heap.size)
  (aS:bP w6 (w.heap.size+1) 27 5 eH v' (L++[U])) (hg:(w4.alloc (.cells (ai U) 27)).grownBy w6 v.ownBlock) (hn:v'.ownBlock=v.ownBlock∨v'.ownBlock=some (w4.alloc (.cells (ai U) 27)).heap.size):Kds w z s o w6 v' j (l++[U.can]) (L++[U]):=by
 have hb5:Below w4.heap.size w4 (w4.alloc (.cells (ai U) 27)):=ba _;have eR:=(h.kids.but hb (by omega)).row.later hb5
 have hs5:=(h.shp.but hb hzG).later hb5;refine⟨oJ eR hg (hR.below hb5) (by omega),JV eR hg (h.but.trans (hb.trans (But.of_below hb5))) (by omega),oJ eR hg (an (dK hb h.box (by omega)) hb5) (by omega),h.kids.snoc h.size hb (by omega) hL aS hg hn,by simp, ?_⟩
 refine fun K h1 h2=> ?_
 obtain⟨a,b,c,d⟩:=hs5 K h1 h2;have j8:(w4.alloc (.cells (ai U) 27)).heap.size > 1:=by have:=h.size;have:=hb.size;rw[dS];omega
 have vi:w6.heap[1]? =(w4.alloc (.cells (ai U) 27)).heap[1]? :=hg.block _ j8 fun e=>by have:=(eR.low e.symm).1;omega
 have key:∀o,w6.cell? ⟨1,o,none⟩=(w4.alloc (.cells (ai U) 27)).cell? ⟨1,o,none⟩:=fun o=>by
  unfold World.cell?;rw[vi]
 exact⟨(key _).trans a,(key _).trans b,(key _).trans c,(key _).trans d⟩
theorem dA.lt {w:World} (h:dA w):1 < w.heap.size:=by
 obtain⟨a, -, -, -⟩:=h 1 (by decide) (by decide)
 unfold World.cell? at a;rcases cG 1 w.heap.size with q | q
 ·exact q
 ·rw[Array.getElem?_eq_none q] at a;cases a
theorem C1 {d:Nat} {B:ByteArray→Nat→Rd PT} (hB:∀s,eA s (B s)) (qz:oR 183 d (fun s=>ia d (B s) s)):oR 176 d (fun s=>iC d (B s) s):=by
 intro s i z w hs hi hR hS hzG;have hzl:=hR.lt;have hG:=hS.lt;have bd:But z w (w.alloc (.cells aB 27)):=(But.refl z w).alloc _;have eO:=hR.below ((aV _ _).alloc (aw _) (.cells aB 27));have bi:w.heap.size≠z:=by omega
 have aF:=ab bd;have ap:=ab (hS.but bd hzG);have eb:Hid ((w.alloc (.cells aB 27)).heap[w.heap.size]? =some (.cells aB 27 (0,0))):=ab (oQ);have HC:Hid (∀i w,i≤s.size→bQ w z s i ((200 - d:Nat):Int)→dA w→Calls prog 183 #[.pointer (some ⟨z,0,none⟩)] w fun e w'=>fR (eW w.heap.size) z s ((200 - d:Nat):Int) w (ia d (B s) s i) e w'):=ab (fun i w h1 h2 h3=>qz s i z w hs h1 h2 h3 hzG)
 show Calls _ _ _ _ fun e w'=>fR (eW w.heap.size) z s ((200 - d:Nat):Int) w (iC d (B s) s i) e w'
 have dT:Hid (iC d (B s) s i=bJ (ia d (B s) s i) fun p j=>bJ (mA d (B s) s (s.size+1) [p] j) fun l e=>.ok (iB 18 l,e)):=ab (rfl)
 have pH:=ab (fun i x j h=>vX (d:=d) (hB s) i x j h)
 generalize iC d (B s) s i=RR at *;generalize ((200 - d:Nat):Int)=o at *;have sO:=ab (aa HC i _ hi eO (aa ap));have yZ:=ab (fun x j=>aa pH i x j hi)
 have HFS:=ab (KV d (B s) s);generalize mA d (B s) s=F at *;generalize ia d (B s) s=PP at *;generalize PP i=RB at *;clear bd eO hR hS qz hB;have HL0:=ab (Eq.refl (w.alloc (.cells aB 27)).heap.size);rcases RB with ⟨er,a1⟩ | ⟨p0,j0⟩
 ·have go:Hid (RR=.error (er,a1)):=ab (by rw[aa dT,jr])
  go_enter func176,ntmps176;go_wp2_with (refine(aa sO).mono ?_;intro e w3 hP;obtain⟨hb3,rfl⟩:=jW hP rfl;clear hP;have ao:=ab ((aa aF).trans hb3);clear hb3;unfold aC);exact⟨rfl,fF (aa go) (aa ao) rfl⟩
 ·have dU:Hid (RR=bJ (F (s.size+1) [p0] j0) fun l e=>.ok (iB 18 l,e)):=ab (by rw[aa dT,dw])
  have nv:=aa yZ p0 j0 rfl;clear dT yZ;go_enter func176,ntmps176;go_wp2_with fail;refine(aa sO).mono ?_;intro e w1 hP;obtain⟨hb1,⟨U,rfl,hU,hL⟩,hRd1⟩:=js hP rfl;have gP:w.heap.size+1≤w1.heap.size:=by have:=hb1.size;rw[dS] at this;exact this
  rw[dS] at hL;have hb2:Below w1.heap.size w1 (w1.alloc (.cells (ai U) 27)):=ba _;have eq:=ab (show Kds w z s o (w1.alloc (.cells (ai U) 27)) (.slice (some ⟨w1.heap.size,0,none⟩) 1 1) j0 [p0] [U] from
   ⟨hRd1.below hb2,((aa aF).trans hb1).trans (But.of_below hb2),an (dK hb1 (aa eb) bi) hb2,hU▸KidsL.one hL (aw _) (by omega),by simp,((aa ap).but hb1 hzG).later hb2⟩)
  clear hP hb1 hRd1 hU hL sO hb2;unfold pv;go_wp2_with fail;rw[show (#[.int .i64 U.k,.string U.t,.int .i64 U.n,.string U.nm,.slice U.xa U.len U.cap]:Array Value)=ai U from rfl];generalize (w1.alloc (.cells (ai U) 27))=w2 at *;generalize Value.slice (some ⟨w1.heap.size,0,none⟩) 1 1=v0 at *;go_loopw [3] (fun v wr=>∃(f k:Nat) (l L:List PT),k≤s.size∧s.size < k+f∧L.length≤k∧Hid (Kds w z s o wr v k l L)∧Hid (RR=bJ (F f l k) fun l e=>.ok (iB 18 l,e))) (fun _ wr=>s.size+1 - kC wr z)
  case atStart=>exact⟨s.size+1,j0,[p0],[U],nv.2,by omega,by simp;omega,aa eq,aa dU⟩
  case round=>
   obtain⟨f,k,l,L,hk,hf,hLk,HK,HE⟩:=hrel;have pb:=eG s k hk;have HN:=ab (sU wr hs hk (aa HK).rdr);have HG:=ab (Jb (nx s k) (jY _ _));have HM:=ab (aa HK).rdr.at;obtain⟨f',rfl⟩:∃f',f=f'+1:=⟨f - 1,by omega⟩
   have dd:Hid (RR=bJ (if kB (nx s k)=true then bJ (PP (sk s k)) fun p j=>F f' (l++[p]) j else .ok (l,sk s k)) fun l e=>.ok (iB 18 l,e)):=ab (by rw[aa HE,aa HFS])
   clear HE eq;have AH:=ab (fun x j=>aa pH (sk s k) x j pb.2)
   have HCk:=ab (fun w h1 h2=>aa HC (sk s k) w pb.2 h1 h2)
   generalize nx s k=b at *;generalize sk s k=m at *
   cases nE:kB b
   ·have eF:Hid (RR=.ok (iB 18 l,m)):=ab (by rw[aa dd,nE,ac (by decide),dw])
    rw[nE] at HG;clear dd nE AH HCk;go_wp2_with fail;refine(aa HN).mono ?_;rintro e w3 ⟨rfl,hb3,hR3⟩;have cS:=ab ((aa HK).next hb3 hR3 hzl hzG);clear hb3 hR3;go_wp2_with fail;refine(aa HG _).mono ?_;rintro e w3 ⟨rfl,rfl⟩;have HT:=ab (CI 18 _ L (w.heap.size+1) w3 (aa cS).kids.row (aa cS).nonil);go_wp2_with fail;refine(aa HT).mono ?_;rintro e w4 ⟨⟨U2,rfl,d5⟩,hb4⟩;have bY:=ab (an (aa cS).box hb4);have tT:Hid (U2.can=iB 18 l∧bf (w.heap.size+1) w4 U2):=ab (⟨by rw[DH d5,(aa cS).kids.can];rfl,(Df (by decide) d5 (aa cS).kids).below hb4⟩)
    have dD:=ab ((aa cS).but.trans (But.of_below hb4));have H4:=ab ((aa cS).rdr.below hb4);clear d5 hb4;unfold pv;go_wp2_with (first
     | (refine bh rfl 27 _ _ rfl w.heap.size (ai U2) rfl rfl 27 aB (aa bY) dE rfl (gZ _) ?_)
     | fail)
    (try simp only[Exit.inBlock,Exit.then])
    refine bK (dM rfl _ _ w.heap.size 27 (ai U2) (0,0) _ rfl (bW _ _ _ _ _ _ (aa bY)) underlying27 rfl dE) rfl ?_;exact lA (aa eF) (jU (aa dD) (aw _) _) ⟨U2,rfl,(aa tT).1,((aa tT).2.setRow (by omega) _).mono (by omega)⟩ ((aa H4).setRow bi _)
   ·have eF:Hid (RR=bJ (bJ (PP m) fun p j=>F f' (l++[p]) j) fun l e=>.ok (iB 18 l,e)):=ab (by rw[aa dd,nE,af rfl])
    rw[nE] at HG;clear dd nE HC HFS pH dU;generalize PP m=RP at *;go_wp2_with fail;refine(aa HN).mono ?_;rintro e w3 ⟨rfl,hb3,hR3⟩;have cS:=ab ((aa HK).next hb3 hR3 hzl hzG);clear hb3 hR3;go_wp2_with fail;refine(aa HG _).mono ?_;rintro e w3 ⟨rfl,rfl⟩;rcases RP with ⟨er,a1⟩ | ⟨p,a1⟩
    ·have jG:Hid (RR=.error (er,a1)):=ab (by rw[aa eF,jr,jr])
     go_wp2_with (refine(aa HCk _ (aa cS).rdr (aa cS).shp).mono ?_;intro e w4 hP;obtain⟨hb4,rfl⟩:=jW hP rfl;clear hP;have dD:=ab ((aa cS).but.trans hb4);clear hb4;unfold aC);exact⟨rfl,fF (aa jG) (aa dD) rfl⟩
    ·have jG:Hid (RR=bJ (F f' (l++[p]) a1) fun l e=>.ok (iB 18 l,e)):=ab (by rw[aa eF,dw])
     have yL:=aa AH p a1 rfl;go_wp2_with fail;refine(aa HCk _ (aa cS).rdr (aa cS).shp).mono ?_;intro e w4 hP;obtain⟨hb4,⟨U2,rfl,d5,hL2⟩,hR4⟩:=js hP rfl;have gr:=ab (And.intro hb4 (And.intro hL2 (And.intro hR4 d5)));have hb5:Below w4.heap.size w4 (w4.alloc (.cells (ai U2) 27)):=ba _;have vC:=ab (((aa cS).kids.but hb4 (by omega)).row.later hb5)
     have yO:w.heap.size+1≤(w4.alloc (.cells (ai U2) 27)).heap.size:=by have h1:=(aa cS).size;have h2:=hb4.size;rw[dS];omega
     clear hP hb4 hL2 hR4 d5 hb5;unfold pv;go_wp2_with (first
      | (at_builtin;refine wL underlying25 vT rfl (by decide) (by decide) iX nU rfl _ _ rfl (aa vC) yO U2 w4.heap.size 1 rfl rfl vS (by omega) ?_;intro v' w6 aS bI dP)
      | fail)
     have pB:=ab ((aa cS).put (aa gr).1 (aa gr).2.2.1 hzl (aa gr).2.1 hzG hG aS bI dP);clear aS bI dP yO;go_wp2_with fail;have h6:=(aa pB).rdr.at;exact⟨⟨f',a1,l++[p],L++[U2],by omega,by omega,by simp;omega,by have h:=aa pB;rw[(aa gr).2.2.2] at h;exact h,aa jG⟩,by rw[h6,aa HM];omega⟩
open Go.RowKit
theorem Es {d:Nat} {B:ByteArray→Nat→Rd PT} (hB:∀s,eA s (B s)) (qz:oR 176 d (fun s=>iC d (B s) s)):oR 166 d (fun s=>m9 d (B s) s):=by
 intro s i z w hs hi hR hS hzG;have hzl:=hR.lt;have hG:=hS.lt;have bd:But z w (w.alloc (.cells aB 27)):=(But.refl z w).alloc _;have eO:=hR.below ((aV _ _).alloc (aw _) (.cells aB 27));have bi:w.heap.size≠z:=by omega
 have aF:=ab bd;have ap:=ab (hS.but bd hzG);have eb:Hid ((w.alloc (.cells aB 27)).heap[w.heap.size]? =some (.cells aB 27 (0,0))):=ab (oQ);have HC:Hid (∀i w,i≤s.size→bQ w z s i ((200 - d:Nat):Int)→dA w→Calls prog 176 #[.pointer (some ⟨z,0,none⟩)] w fun e w'=>fR (eW w.heap.size) z s ((200 - d:Nat):Int) w (iC d (B s) s i) e w'):=ab (fun i w h1 h2 h3=>qz s i z w hs h1 h2 h3 hzG)
 show Calls _ _ _ _ fun e w'=>fR (eW w.heap.size) z s ((200 - d:Nat):Int) w (m9 d (B s) s i) e w'
 have dT:Hid (m9 d (B s) s i=bJ (iC d (B s) s i) fun p j=>bJ (mF d (B s) s (s.size+1) [p] j) fun l e=>.ok (iB 19 l,e)):=ab (rfl)
 have pH:=ab (fun i x j h=>vY (d:=d) (hB s) i x j h)
 generalize m9 d (B s) s i=RR at *;generalize ((200 - d:Nat):Int)=o at *;have sO:=ab (aa HC i _ hi eO (aa ap));have yZ:=ab (fun x j=>aa pH i x j hi)
 have HFS:=ab (LT d (B s) s);generalize mF d (B s) s=F at *;generalize iC d (B s) s=PP at *;generalize PP i=RB at *;clear bd eO hR hS qz hB;have HL0:=ab (Eq.refl (w.alloc (.cells aB 27)).heap.size);rcases RB with ⟨er,a1⟩ | ⟨p0,j0⟩
 ·have go:Hid (RR=.error (er,a1)):=ab (by rw[aa dT,jr])
  go_enter func166,ntmps166;go_wp2_with (refine(aa sO).mono ?_;intro e w3 hP;obtain⟨hb3,rfl⟩:=jW hP rfl;clear hP;have ao:=ab ((aa aF).trans hb3);clear hb3;unfold aC);exact⟨rfl,fF (aa go) (aa ao) rfl⟩
 ·have dU:Hid (RR=bJ (F (s.size+1) [p0] j0) fun l e=>.ok (iB 19 l,e)):=ab (by rw[aa dT,dw])
  have nv:=aa yZ p0 j0 rfl;clear dT yZ;go_enter func166,ntmps166;go_wp2_with fail;refine(aa sO).mono ?_;intro e w1 hP;obtain⟨hb1,⟨U,rfl,hU,hL⟩,hRd1⟩:=js hP rfl;have gP:w.heap.size+1≤w1.heap.size:=by have:=hb1.size;rw[dS] at this;exact this
  rw[dS] at hL;have hb2:Below w1.heap.size w1 (w1.alloc (.cells (ai U) 27)):=ba _;have eq:=ab (show Kds w z s o (w1.alloc (.cells (ai U) 27)) (.slice (some ⟨w1.heap.size,0,none⟩) 1 1) j0 [p0] [U] from
   ⟨hRd1.below hb2,((aa aF).trans hb1).trans (But.of_below hb2),an (dK hb1 (aa eb) bi) hb2,hU▸KidsL.one hL (aw _) (by omega),by simp,((aa ap).but hb1 hzG).later hb2⟩)
  clear hP hb1 hRd1 hU hL sO hb2;unfold pv;go_wp2_with fail;rw[show (#[.int .i64 U.k,.string U.t,.int .i64 U.n,.string U.nm,.slice U.xa U.len U.cap]:Array Value)=ai U from rfl];generalize (w1.alloc (.cells (ai U) 27))=w2 at *;generalize Value.slice (some ⟨w1.heap.size,0,none⟩) 1 1=v0 at *;go_loopw [3] (fun v wr=>∃(f k:Nat) (l L:List PT),k≤s.size∧s.size < k+f∧L.length≤k∧Hid (Kds w z s o wr v k l L)∧Hid (RR=bJ (F f l k) fun l e=>.ok (iB 19 l,e))) (fun _ wr=>s.size+1 - kC wr z)
  case atStart=>exact⟨s.size+1,j0,[p0],[U],nv.2,by omega,by simp;omega,aa eq,aa dU⟩
  case round=>
   obtain⟨f,k,l,L,hk,hf,hLk,HK,HE⟩:=hrel;have pb:=eG s k hk;have HN:=ab (sU wr hs hk (aa HK).rdr);have HM:=ab (aa HK).rdr.at;obtain⟨f',rfl⟩:∃f',f=f'+1:=⟨f - 1,by omega⟩
   have dd:Hid (RR=bJ (if nx s k=124 then bJ (PP (sk s k+1)) fun p j=>F f' (l++[p]) j else .ok (l,sk s k)) fun l e=>.ok (iB 19 l,e)):=ab (by rw[aa HE,aa HFS])
   clear HE eq;have dW:=ab (fun (h:nx s k=124)=>kW (s:=s) (i:=k) (by omega))
   generalize nx s k=b at *;generalize sk s k=m at *
   by_cases nE:¬b=124
   ·have eF:Hid (RR=.ok (iB 19 l,m)):=ab (by rw[aa dd,ac nE,dw])
    have e0:((b:Int)==124)=false:=bn;clear dd nE dW;go_wp2_with fail;refine(aa HN).mono ?_;rintro e w3 ⟨rfl,hb3,hR3⟩;have cS:=ab ((aa HK).next hb3 hR3 hzl hzG);clear hb3 hR3;go_wp2_with fail;have HT:=ab (CI 19 _ L (w.heap.size+1) w3 (aa cS).kids.row (aa cS).nonil);go_wp2_with fail;refine(aa HT).mono ?_;rintro e w4 ⟨⟨U2,rfl,d5⟩,hb4⟩;have bY:=ab (an (aa cS).box hb4);have tT:Hid (U2.can=iB 19 l∧bf (w.heap.size+1) w4 U2):=ab (⟨by rw[DH d5,(aa cS).kids.can];rfl,(Df (by decide) d5 (aa cS).kids).below hb4⟩)
    have dD:=ab ((aa cS).but.trans (But.of_below hb4));have H4:=ab ((aa cS).rdr.below hb4);clear d5 hb4;unfold pv;go_wp2_with (first
     | (refine bh rfl 27 _ _ rfl w.heap.size (ai U2) rfl rfl 27 aB (aa bY) dE rfl (gZ _) ?_)
     | fail)
    (try simp only[Exit.inBlock,Exit.then])
    refine bK (dM rfl _ _ w.heap.size 27 (ai U2) (0,0) _ rfl (bW _ _ _ _ _ _ (aa bY)) underlying27 rfl dE) rfl ?_;exact lA (aa eF) (jU (aa dD) (aw _) _) ⟨U2,rfl,(aa tT).1,((aa tT).2.setRow (by omega) _).mono (by omega)⟩ ((aa H4).setRow bi _)
   ·have nE:=Decidable.not_not.1 nE
    have eF:Hid (RR=bJ (bJ (PP (m+1)) fun p j=>F f' (l++[p]) j) fun l e=>.ok (iB 19 l,e)):=ab (by rw[aa dd,af nE])
    have hmlt:=aa dW nE;have AH:=ab (fun x j=>aa pH (m+1) x j (by omega))
    have HCk:=ab (fun w h1 h2=>aa HC (m+1) w (by omega) h1 h2)
    have e0:((b:Int)==124)=true:=bt;clear dd HC HFS pH dU dW;subst nE;generalize PP (m+1)=RP at *;go_wp2_with fail;refine(aa HN).mono ?_;rintro e w3 ⟨rfl,hb3,hR3⟩;have cS:=ab ((aa HK).next (hb3.trans ((But.refl z w3).setCell 1 (.int .i64 ((m+1:Nat):Int)))) (hR3.set1 (m+1)) hzl hzG);have c1:=hR3.c1;have fz:=hR3.fz 1;clear hb3 hR3;go_wp2_with fail;rw[show ((m+1:Nat):Int)=(m:Int)+1 from rfl] at cS;generalize w3.setCell ⟨z,1,none⟩ (.int .i64 ((m:Int)+1))=w3 at *;clear c1 fz;rcases RP with ⟨er,a1⟩ | ⟨p,a1⟩
    ·have jG:Hid (RR=.error (er,a1)):=ab (by rw[aa eF,jr,jr])
     go_wp2_with (refine(aa HCk _ (aa cS).rdr (aa cS).shp).mono ?_;intro e w4 hP;obtain⟨hb4,rfl⟩:=jW hP rfl;clear hP;have dD:=ab ((aa cS).but.trans hb4);clear hb4;unfold aC);exact⟨rfl,fF (aa jG) (aa dD) rfl⟩
    ·have jG:Hid (RR=bJ (F f' (l++[p]) a1) fun l e=>.ok (iB 19 l,e)):=ab (by rw[aa eF,dw])
     have yL:=aa AH p a1 rfl;go_wp2_with fail;refine(aa HCk _ (aa cS).rdr (aa cS).shp).mono ?_;intro e w4 hP;obtain⟨hb4,⟨U2,rfl,d5,hL2⟩,hR4⟩:=js hP rfl;have gr:=ab (And.intro hb4 (And.intro hL2 (And.intro hR4 d5)));have hb5:Below w4.heap.size w4 (w4.alloc (.cells (ai U2) 27)):=ba _;have vC:=ab (((aa cS).kids.but hb4 (by omega)).row.later hb5)
     have yO:w.heap.size+1≤(w4.alloc (.cells (ai U2) 27)).heap.size:=by have h1:=(aa cS).size;have h2:=hb4.size;rw[dS];omega
     clear hP hb4 hL2 hR4 d5 hb5;unfold pv;go_wp2_with (first
      | (at_builtin;refine wL underlying25 vT rfl (by decide) (by decide) iX nU rfl _ _ rfl (aa vC) yO U2 w4.heap.size 1 rfl rfl vS (by omega) ?_;intro v' w6 aS bI dP)
      | fail)
     have pB:=ab ((aa cS).put (aa gr).1 (aa gr).2.2.1 hzl (aa gr).2.1 hzG hG aS bI dP);clear aS bI dP yO;go_wp2_with fail;have h6:=(aa pB).rdr.at;exact⟨⟨f',a1,l++[p],L++[U2],by omega,by omega,by simp;omega,by have h:=aa pB;rw[(aa gr).2.2.2] at h;exact h,aa jG⟩,by rw[h6,aa HM];omega⟩
end Go.Proofs.YtlmnjbipfacniaaGreatDoor
