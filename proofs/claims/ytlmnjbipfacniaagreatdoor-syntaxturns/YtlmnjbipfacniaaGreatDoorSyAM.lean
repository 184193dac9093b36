/- The checker: maps of names, and its small functions. The che -/
import Derived.Test.YtlmnjbipfacniaaGreatDoorStAM
import Derived.Maps.OwnSet
import Derived.Maps.OwnOps
import Derived.Maps.Views
import Derived.StringKeys
import Derived.Test.YtlmnjbipfacniaaGreatDoorRowBaseM
import Derived.Lib.AppendZeros
import Derived.Test.YtlmnjbipfacniaaGreatDoorStBM
import Derived.Test.YtlmnjbipfacniaaGreatDoorPatRightM
import Derived.Test.YtlmnjbipfacniaaGreatDoorLxLineM
import Derived.Test.YtlmnjbipfacniaaGreatDoorRdGM
set_option maxRecDepth 100000
set_option maxHeartbeats 2000000
namespace Go.Proofs.YtlmnjbipfacniaaGreatDoor
open Go.Proofs.Tryz
open Go.RowKit
def nP (s:ByteArray):Lit:=.string s.data.toList
theorem Ev {s t:ByteArray} (h:nP s=nP t):s=t:=by
 injection h with h
 exact ByteArray.ext (Array.toList_inj.1 h)
theorem Eu {s:ByteArray} (hs:s.size≤maxLen):keyOf prog 9 (.string s)=some (nP s):=Go.WideMaps.keyOf_string_mk underlying9 hs
theorem KG (w:World):(zeroValue 3).run prog w=.ok (.int .i64 0) w:=by kernel_rfl
theorem Et {s:ByteArray}:WideAt.IsKeyLit (nP s):=by simp[WideAt.IsKeyLit,nP]
def MI (w:World) (b n:Nat) (f:ByteArray→Option Int):Prop:=∃D:DataW Unit,w.ownsMap prog 9 (plainElem prog 3) b n D∧∀s,Maps.has D (nP s)=(f s).isSome∧∀x,f s=some x→D.atKey (nP s) (.lit (.int .i64 0))=.lit (.int .i64 x)
theorem MI.below {w w':World} {b n:Nat} {f:ByteArray→Option Int} (h:MI w b n f) (hb:w'.heap[b]? =w.heap[b]?):MI w' b n f:=by
 obtain⟨D,⟨es,cl,h1,h2,h3,h4⟩,h5⟩:=h;exact⟨D,⟨es,cl,hb.trans h1,h2,h3,h4⟩,h5⟩
theorem MI.lt {w:World} {b n:Nat} {f:ByteArray→Option Int} (h:MI w b n f):b < w.heap.size:=by obtain⟨D,h, -⟩:=h;exact h.lt
theorem MI.new {w:World}:MI (w.alloc (.map #[] 0)) w.heap.size 0 (fun _=>none):=⟨_,World.ownsMap_made w _ _ _,fun s=>⟨rfl,fun x h=>by cases h⟩⟩
theorem MI.put {w:World} {b n:Nat} {f:ByteArray→Option Int} {D:DataW Unit} {s:ByteArray} {x:Int} (h5:∀s,Maps.has D (nP s)=(f s).isSome∧∀x,f s=some x→D.atKey (nP s) (.lit (.int .i64 0))=.lit (.int .i64 x)) (hm:Maps.IsMap D)
  (h:w.ownsMap prog 9 (plainElem prog 3) b n (D.put (nP s) (.lit (.int .i64 x)))):MI w b n (fun t=>if t=s then some x else f t):=by
 refine⟨_,h,fun t=> ?_⟩
 show Maps.has (D.put (nP s) (.lit (.int .i64 x))) (nP t)=(if t=s then some x else f t).isSome∧∀y,(if t=s then some x else f t)=some y→(D.put (nP s) (.lit (.int .i64 x))).atKey (nP t) (.lit (.int .i64 0))=.lit (.int .i64 y)
 by_cases q:t=s
 ·subst q
  rw[af rfl];exact⟨Maps.has_put_same hm Et _,fun y hy=>by injection hy with hy;subst hy;exact Maps.atKey_put_same hm Et _ _⟩
 ·rw[ac q,Maps.has_put_other (fun e=>q (Ev e)),Maps.atKey_put_other (fun e=>q (Ev e))]
  exact h5 t
open Go.RowKit
theorem IK {w:World} {ops:Array Oper} {rest:List Oper} {o:Oper} {a:Act} {Q:Exit→Act→World→Prop} (hg:o.guard=none) (m x v:Operand) (vm:o.op=Op.insert 82 m x v∨o.op=Op.mapUpdate 82 m x v)
  {b n:Nat} {f:ByteArray→Option Int} (hm:a.eval m=.map (some b)) (hM:MI w b n f) (hn:n < 100000) (s:ByteArray) (c:Int) (hx:a.eval x=.string s) (hv:a.eval v=.int .i64 c) (hs:s.size≤maxLen) (hc:(Lit.int .i64 c).wf=true)
  (hK:∀w',MI w' b (n+1) (fun t=>if t=s then some c else f t)→w.grownBy w' (some b)→wpList prog ops Q rest (a.put o.dst undef) w'):wpList prog ops Q (o::rest) a w:=by
 obtain⟨D,dX,h5⟩:=hM;refine wpList_plain hg fun K' hK'=> ?_
 obtain⟨w',AG,r1,r2⟩:=dX.update (Maps.string_keyed underlying9) underlying82 (by unfold maxLen;omega) (Eu hs) (plainElem_int underlying3 hc)
 have hk:=hK w' (MI.put h5 dX.isMap r1) r2;unfold Oper.wp;rcases vm with vm | vm
 ·simp[execOp,vm,hm,hx,hv,AG,Result.andThen]
  exact hK' _ _ hk
 ·simp[execOp,vm,hm,hx,hv,AG,Result.andThen]
  exact hK' _ _ hk
open Go.RowKit
def wm (w:World) (g o:Nat) (l:List Tk):Prop:=∀(i:Nat) (t:Tk),l[i]? =some t→w.cell? ⟨g,o+i * 3,none⟩=some (.int .i64 (t.k:Int))∧w.cell? ⟨g,o+i * 3+1,none⟩=some (.string t.t)∧w.cell? ⟨g,o+i * 3+2,none⟩=some (.int .i64 (t.a:Int))
def uR (t:Tk):Prop:=t.k≤5∧t.t.size≤2000∧t.a≤2000∧(t.k=2→t.t.size≠0∧∀b ∈ t.t.data.toList,48≤b.toNat∧b.toNat≤57)
structure SyC where
 z:Nat
 E:Nat
 g:Nat
 bb:Nat
 n:Nat
def wk (t:ByteArray):Option Int:=if gT t=0 then none else some (gT t:Int)
structure Syr (C:SyC) (w:World) (l:List Tk) (o:Nat):Prop where
 blk:∃xa cap off,w.heap[C.z]? =some (.cells #[.slice xa l.length cap,.int .i64 (C.E:Int),.int .i64 (o:Int),.map (some C.bb)] 105 (0,0))∧l.length≤cap∧cap≤maxLen∧(l≠[]→xa=some ⟨C.g,off,none⟩)∧wm w C.g off l
 map:MI w C.bb C.n wk
 gl:C.g < w.heap.size
 ng:C.g≠C.z
 nb:C.bb≠C.z
 sm:∀t ∈ l,uR t
 en:C.E≤2000
def jC (t:Tk):Value:=.agg #[.int .i64 (t.k:Int),.string t.t,.int .i64 (t.a:Int)]
section
variable {C:SyC} {w w':World} {l:List Tk} {o:Nat}
theorem Syr.lt (h:Syr C w l o):C.z < w.heap.size:=by obtain⟨xa,cap,off,h1, -⟩:=h.blk;exact(bC.1 h1).1
theorem Syr.cap (h:Syr C w l o):l.length≤maxLen:=by obtain⟨xa,cap,off, -,h2,h3, -⟩:=h.blk;omega
theorem Syr.glt (h:Syr C w l o) (_:l≠[]):C.g < w.heap.size:=h.gl
theorem wm.same {g o:Nat} (h:wm w g o l) (hs:w'.heap[g]? =w.heap[g]?):wm w' g o l:=fun i t ht=>by
 have k:∀o,w'.cell? ⟨g,o,none⟩=w.cell? ⟨g,o,none⟩:=fun o=>by unfold World.cell?;rw[hs]
 rw[k,k,k];exact h i t ht
theorem Ff {g:Nat} (h:g < w.heap.size) (hs:w'.heap[g]? =w.heap[g]?):g < w'.heap.size:=by
 rw[Array.getElem?_eq_getElem h] at hs;exact(bC.1 hs).1
theorem Syr.same (h:Syr C w l o) (hz:w'.heap[C.z]? =w.heap[C.z]?) (hg:w'.heap[C.g]? =w.heap[C.g]?) (hb:w'.heap[C.bb]? =w.heap[C.bb]?):Syr C w' l o:=by
 obtain⟨xa,cap,off,h1,h2,h3,h4,h5⟩:=h.blk;exact⟨⟨xa,cap,off,hz.trans h1,h2,h3,h4,h5.same hg⟩,h.map.below hb,Ff h.gl hg,h.ng,h.nb,h.sm,h.en⟩
theorem Syr.below (h:Syr C w l o) (hb:Below w.heap.size w w'):Syr C w' l o:=h.same (hb.block _ h.lt) (hb.block _ h.gl) (hb.block _ h.map.lt)
theorem Syr.old {B:Nat} {v:World} {l0:List Tk} {o0:Nat} (h:Syr C w l o) (h0:Syr C v l0 o0) (hB:v.heap.size=B) (hb:∀k,k < B→w'.heap[k]? =w.heap[k]?):Syr C w' l o:=h.same (hb _ (hB▸h0.lt)) (hb _ (hB▸h0.gl)) (hb _ (hB▸h0.map.lt))
theorem Syr.put (h:Syr C w l o) {l':List Tk} {o':Nat} {xa:Option Addr} {cap off:Nat} (hb:But C.z w w') (iR:∀t ∈ l',t ∈ l)
  (h1:w'.heap[C.z]? =some (.cells #[.slice xa l'.length cap,.int .i64 (C.E:Int),.int .i64 (o':Int),.map (some C.bb)] 105 (0,0))) (h2:l'.length≤cap) (h3:cap≤maxLen) (h4:l'≠[]→xa=some ⟨C.g,off,none⟩) (h5:wm w C.g off l'):Syr C w' l' o':=
 ⟨⟨xa,cap,off,h1,h2,h3,h4,h5.same (hb.block _ h.gl h.ng)⟩,h.map.below (hb.block _ h.map.lt h.nb),Ff h.gl (hb.block _ h.gl h.ng),h.ng,h.nb,fun t ht=>h.sm t (iR t ht),h.en⟩
theorem xn (h:Syr C w l o) (n:Nat):uR (ak C.E n l):=by
 unfold ak
 cases hq:l[n]? with
 | none=>exact⟨cU _,(by decide:ByteArray.empty.size≤2000),h.en,fun q=>absurd (show (0:Nat)=2 from q) (by decide)⟩
 | some t=>exact h.sm t (rO hq)
end
theorem ul (er:Int) (i:Nat) (w:World):Calls prog 95 #[.int .i64 er,.int .i64 (i:Int)] w fun e w'=>e=aC er i∧w'=w:=by
 go_enter func95,ntmps95;go_wp2;exact⟨rfl,rfl,rfl⟩
theorem idx3 {g o n cap i:Nat} (hi:i < n) (w:World):(Instr.indexAt 62 (.slice (some ⟨g,o,none⟩) n cap) (.int .i64 (i:Int))).run prog w=.ok (.pointer (some ⟨g,o+i * 3,none⟩)) w:=by
 have h0:(0:Int)≤(i:Int)∧(i:Int) < (n:Int):=by omega
 have hs:=ur
 cases hq:prog.info? 102 with
 | none=>simp[hq] at hs
 | some x=>
  have hz:x.size=3:=by simpa [hq] using hs
  simp[Instr.indexAt,asIntOf,run_underlying underlying62,h0,sizeOf,typeInfo,hq,hz,Addr.add_lit];intro h;omega
theorem yd {w:World}:(w.alloc (.cells uF 102)).heap[w.heap.size]? =some (.cells uF 102 (0,0)):=aw rfl
theorem zj {C:SyC} {l:List Tk} {o:Nat} (n:Nat) (w:World) (hR:Syr C w l o) (_hn:n≤1):Calls prog 97 #[.pointer (some ⟨C.z,0,none⟩),.int .i64 (n:Int)] w fun e w'=>e=.returned (jC (ak C.E n l))∧Below w.heap.size w w':=by
 have aZ:Below w.heap.size w (w.alloc (.cells uF 102)):=ba _;have hzl:=hR.lt;have hcm:=hR.cap;have hen:=hR.en;unfold maxLen at hcm;rcases cX n l.length with h | h
 ·obtain⟨t,ht⟩:∃t,l[n]? =some t:=⟨l[n],jH _⟩
  have ks:=hR.glt (fun e=>by rw[e] at h;simp at h)
  obtain⟨xa,cap,off,h1,h2,h3,h4,h5⟩:=hR.blk;have oJ:=h4 (fun e=>by rw[e] at h;simp at h)
  subst oJ;obtain⟨t0,t1,t2⟩:=h5 n t ht;have c0:w.cell? ⟨C.z,0,none⟩=some (.slice (some ⟨C.g,off,none⟩) l.length cap):=cr h1;have ma:=fun W=>idx3 (g:=C.g) (o:=off) (cap:=cap) (n:=l.length) (i:=n) h W
  have HE:Hid (ak C.E n l=t):=ab (by unfold ak;rw[ht];rfl)
  have q0:¬(l.length:Int)≤(n:Int):=by omega
  have HB:=ab aZ;clear hR h1 h4 h5 ht aZ;go_enter func97,ntmps97;go_wp2_with (first
   | (refine aX rfl 102 _ _ rfl w.heap.size #[.int .i64 (t.k:Int),.string t.t,.int .i64 (t.a:Int)] rfl rfl 102 uF yd ur rfl (by simp[Value.oneCell']) ?_)
   | fail)
  (try simp only[Exit.inBlock,Exit.then])
  refine ck (dT rfl _ _ w.heap.size 102 #[.int .i64 (t.k:Int),.string t.t,.int .i64 (t.a:Int)] (0,0) _ rfl (cm _ _ _ _ _ _ yd) underlying102 rfl ur) rfl ?_;exact⟨by rw[aa HE];rfl,eL (aa HB) _ (ax _) _⟩
 ·obtain⟨xa,cap,off,h1,h2,h3,h4,h5⟩:=hR.blk
  have c0:w.cell? ⟨C.z,0,none⟩=some (.slice xa l.length cap):=cr h1;have c1:w.cell? ⟨C.z,1,none⟩=some (.int .i64 (C.E:Int)):=cr h1;have HE:Hid (ak C.E n l=⟨0,ByteArray.empty,C.E⟩):=ab (by unfold ak;rw[xB h];rfl)
  have q0:(l.length:Int)≤(n:Int):=by omega
  have HB:=ab aZ;clear hR h1 h4 h5 aZ;go_enter func97,ntmps97;go_wp2_with (first
   | (refine aX rfl 102 _ _ rfl w.heap.size #[.int .i64 0,.string ⟨#[]⟩,.int .i64 (C.E:Int)] rfl rfl 102 uF yd ur rfl (by simp[Value.oneCell']) ?_)
   | fail)
  (try simp only[Exit.inBlock,Exit.then])
  refine ck (dT rfl _ _ w.heap.size 102 #[.int .i64 0,.string ⟨#[]⟩,.int .i64 (C.E:Int)] (0,0) _ rfl (cm _ _ _ _ _ _ yd) underlying102 rfl ur) rfl ?_;exact⟨by rw[aa HE];rfl,eL (aa HB) _ (ax _) _⟩
theorem rp {C:SyC} {l:List Tk} {o:Nat} (w:World) (hR:Syr C w l o):Calls prog 94 #[.pointer (some ⟨C.z,0,none⟩)] w fun e w'=>e=.returned (jC (ak C.E 0 l))∧Below w.heap.size w w':=by
 have aZ:Below w.heap.size w (w.alloc (.cells uF 102)):=ba _;have HA:=ab (zj 0 _ (hR.below aZ) (by decide))
 have HB:=ab aZ;generalize ak C.E 0 l=t at *;clear hR aZ;go_enter func94,ntmps94;go_wp2_with fail;refine(aa HA).mono ?_;rintro e w2 ⟨rfl,hb2⟩;have an:=am yd hb2;have aF:=ab (ap (aa HB) hb2);have HX:=ab an;clear hb2 an;unfold jC;go_wp2_with (first
  | (refine aX rfl 102 _ _ rfl w.heap.size #[.int .i64 (t.k:Int),.string t.t,.int .i64 (t.a:Int)] rfl rfl 102 uF (aa HX) ur rfl (by simp[Value.oneCell']) ?_)
  | fail)
 (try simp only[Exit.inBlock,Exit.then])
 refine ck (dT rfl _ _ w.heap.size 102 #[.int .i64 (t.k:Int),.string t.t,.int .i64 (t.a:Int)] (0,0) _ rfl (cm _ _ _ _ _ _ (aa HX)) underlying102 rfl ur) rfl ?_;exact⟨rfl,eL (aa aF) _ (ax _) _⟩
theorem zR {C:SyC} {l:List Tk} {o:Nat} (w:World) (hR:Syr C w l o):Calls prog 106 #[.pointer (some ⟨C.z,0,none⟩)] w fun e w'=>e=.returned (.int .i64 ((ak C.E 0 l).a:Int))∧Below w.heap.size w w':=by
 have HA:=ab (rp w hR);generalize ak C.E 0 l=t at *;clear hR;have hfd:∀w:World,(Instr.field 102 (.agg #[.int .i64 (t.k:Int),.string t.t,.int .i64 (t.a:Int)]) 2).run prog w=.ok (.int .i64 (t.a:Int)) w:=fun _=>by kernel_rfl
 unfold jC at HA;go_enter func106,ntmps106;go_wp2_with fail;refine(aa HA).mono ?_;rintro e w2 ⟨rfl,hb2⟩;go_wp2_with fail;go_ret;exact⟨rfl,hb2⟩
theorem rq {C:SyC} {l:List Tk} {o:Nat} (w:World) (hR:Syr C w l o):Calls prog 56 #[.pointer (some ⟨C.z,0,none⟩)] w fun e w'=>e=aC 2 (ak C.E 0 l).a∧Below w.heap.size w w':=by
 have HA:=ab (zR w hR);have HC:=ab (fun w=>ul 2 (ak C.E 0 l).a w)
 generalize (ak C.E 0 l).a=a at *;clear hR;go_enter func56,ntmps56;go_wp2_with fail;refine(aa HA).mono ?_;rintro e w2 ⟨rfl,hb2⟩;go_wp2_with (refine(aa HC _).mono ?_;rintro e w ⟨rfl,rfl⟩;unfold aC);exact⟨rfl,rfl,hb2⟩
def xA (off cap:Nat):Nat:=if cap=1 then off else off+3
theorem JG (g off n cap:Nat) (w:World):
  (Instr.sliceAt 62 (.slice (some ⟨g,off,none⟩) (n+1) cap) (some (.int .i64 1)) none none).run prog w=.ok (.slice (some ⟨g,xA off cap,none⟩) n (cap - 1)) w:=by
 have hs:=ur
 cases hq:prog.info? 102 with
 | none=>simp[hq] at hs
 | some i=>
  have hz:i.size=3:=by simpa [hq] using hs
  have h1:(1:Int)≤((n+1:Nat):Int):=by omega
  have he:prog.underlying 62=some (.slice (prog.elem 62)):=by kernel_rfl
  have he2:prog.elem 62=102:=by kernel_rfl
  rw[run_sliceAt_slice _ _ _ _ _ _ he,run_slice_l _ _ _ _ _ he .i64 1 (by omega) h1,he2]
  simp only[sizeOf,typeInfo,sliced];unfold xA
  by_cases dM:cap=1
  ·simp[dM,hq,hz]
  ·have:¬cap=Int.toNat 1:=by simpa using dM
   simp[dM,hq,hz,Addr.add_lit]
theorem un {C:SyC} {l:List Tk} {o:Nat} (w:World) (hR:Syr C w l o) (hl:l≠[]):Calls prog 96 #[.pointer (some ⟨C.z,0,none⟩)] w fun e w'=>e=.returned (.tuple #[])∧But C.z w w'∧Syr C w' l.tail o:=by
 obtain⟨xa,cap,off,h1,h2,h3,h4,h5⟩:=hR.blk;have oJ:=h4 hl;subst oJ;obtain⟨t,r,rfl⟩:∃t r,l=t::r:=by cases l with | nil=>exact absurd rfl hl | cons t r=>exact⟨t,r,rfl⟩
 rw[List.length_cons] at h2;have c0:w.cell? ⟨C.z,0,none⟩=some (.slice (some ⟨C.g,off,none⟩) (r.length+1) cap):=cr h1;have fz:=cT w C.z 0 _ _ h1;have hsl:=fun W=>JG C.g off r.length cap W
 have HZ:=ab (show Syr C (w.setCell ⟨C.z,0,none⟩ (.slice (some ⟨C.g,xA off cap,none⟩) r.length (cap - 1))) r o from
  hR.put ((But.refl _ _).setCell 0 _) (fun t ht=>lY _ ht) (fK w C.z 0 _ _ _ h1) (by omega) (by omega) (fun _=>rfl) (fun i t ht=>by
   have hc:¬cap=1:=fun e=>by have:=(rN.1 ht).1;omega
   have:=h5 (i+1) t (by simpa using ht)
   unfold xA;rw[ac hc,show off+3+i * 3=off+(i+1) * 3 by omega]
   exact this))
 have HB:Hid (But C.z w (w.setCell ⟨C.z,0,none⟩ (.slice (some ⟨C.g,xA off cap,none⟩) r.length (cap - 1)))):=ab ((But.refl _ _).setCell 0 _);clear hR h1 h4 h5 hl;generalize xA off cap=off2 at *;go_enter func96,ntmps96;go_wp2_with fail;go_end0;exact⟨rfl,aa HB,aa HZ⟩
theorem eqT (a b:ByteArray):(a.toList==b.toList)=decide (a=b):=by
 by_cases h:a=b
 ·subst h;simp
 ·rw[dh h,pL]
  intro k;rw[m7,m7] at k;exact h (ByteArray.ext (Array.toList_inj.1 k))
theorem um (t:Tk) (s:ByteArray) (w:World):Calls prog 98 #[jC t,.string s] w fun e w'=>e=.returned (.bool (aM t s))∧Below w.heap.size w w':=by
 have HB:Hid (Below w.heap.size w (w.alloc (.cells #[.int .i64 (t.k:Int),.string t.t,.int .i64 (t.a:Int)] 102))):=ab (ba _);unfold jC
 by_cases h5:t.k=5
 ·have q:((t.k:Int)==5)=true:=bt
  have HE:Hid (aM t s=(t.t.toList==s.toList)):=ab (by unfold aM;rw[eW h5,Bool.true_and,eqT])
  clear h5;go_enter func98,ntmps98;go_wp2_with fail;go_ret;exact⟨by rw[aa HE];rfl,aa HB⟩
 ·have q:((t.k:Int)==5)=false:=bn
  have HE:Hid (aM t s=false):=ab (by unfold aM;rw[dh h5,Bool.false_and])
  clear h5;go_enter func98,ntmps98;go_wp2_with fail;go_ret;exact⟨by rw[aa HE];rfl,aa HB⟩
theorem zm (t:Tk) (s:ByteArray) (w:World):Calls prog 99 #[jC t,.string s] w fun e w'=>e=.returned (.bool (fW t s))∧Below w.heap.size w w':=by
 have HB:Hid (Below w.heap.size w (w.alloc (.cells #[.int .i64 (t.k:Int),.string t.t,.int .i64 (t.a:Int)] 102))):=ab (ba _);unfold jC
 by_cases h5:t.k=1
 ·have q:((t.k:Int)==1)=true:=bt
  have HE:Hid (fW t s=(t.t.toList==s.toList)):=ab (by unfold fW;rw[eW h5,Bool.true_and,eqT])
  clear h5;go_enter func99,ntmps99;go_wp2_with fail;go_ret;exact⟨by rw[aa HE];rfl,aa HB⟩
 ·have q:((t.k:Int)==1)=false:=bn
  have HE:Hid (fW t s=false):=ab (by unfold fW;rw[dh h5,Bool.false_and])
  clear h5;go_enter func99,ntmps99;go_wp2_with fail;go_ret;exact⟨by rw[aa HE];rfl,aa HB⟩
theorem isS_ne {E:Nat} {l:List Tk} {s:ByteArray} (h:aM (ak E 0 l) s=true):l≠[]:=by
 rintro rfl
 revert h
 exact(fun h=>by unfold aM ak at h;simp at h)
theorem pq {C:SyC} {l:List Tk} {o:Nat} (s:ByteArray) (w:World) (hR:Syr C w l o) (hs:aM (ak C.E 0 l) s=true):Calls prog 104 #[.pointer (some ⟨C.z,0,none⟩),.string s] w fun e w'=>e=.returned (.bool true)∧But C.z w w'∧Syr C w' l.tail o:=by
 have HA:=ab (rp w hR);have HR:=ab hR;have HI:=ab (fun w=>um (ak C.E 0 l) s w)
 have HP:=ab (fun w h=>un (l:=l) (o:=o) (C:=C) w h (isS_ne hs))
 rw[hs] at HI;clear hR hs;generalize ak C.E 0 l=t at *;generalize jC t=tv at *;go_enter func104,ntmps104;go_wp2_with fail;refine(aa HA).mono ?_;rintro e w2 ⟨rfl,hb2⟩;have aF:=ab hb2;clear hb2;go_wp2_with fail;refine(aa HI _).mono ?_;rintro e w3 ⟨rfl,hb3⟩;have qb:=ab (((aa HR).below (aa aF)).below hb3);have aq:=ab (ap (aa aF) hb3);clear hb3;go_wp2_with fail;refine(aa HP _ (aa qb)).mono ?_;rintro e w4 ⟨rfl,hb4,hR4⟩;have HZ:Hid (But C.z w w4∧Syr C w4 l.tail o):=ab (⟨(But.of_below (aa aq)).trans hb4,hR4⟩);clear hb4 hR4;go_wp2_with fail;go_ret;exact⟨rfl,aa HZ⟩
theorem pr {C:SyC} {l:List Tk} {o:Nat} (s:ByteArray) (w:World) (hR:Syr C w l o) (hs:aM (ak C.E 0 l) s=false):Calls prog 104 #[.pointer (some ⟨C.z,0,none⟩),.string s] w fun e w'=>e=.returned (.bool false)∧Below w.heap.size w w':=by
 have HA:=ab (rp w hR);have HI:=ab (fun w=>um (ak C.E 0 l) s w)
 rw[hs] at HI;clear hR hs;generalize ak C.E 0 l=t at *;generalize jC t=tv at *;go_enter func104,ntmps104;go_wp2_with fail;refine(aa HA).mono ?_;rintro e w2 ⟨rfl,hb2⟩;have aF:=ab hb2;clear hb2;go_wp2_with fail;refine(aa HI _).mono ?_;rintro e w3 ⟨rfl,hb3⟩;have aq:=ab (ap (aa aF) hb3);clear hb3;go_wp2_with fail;go_ret;exact⟨rfl,aa aq⟩
def fV {α:Type} (V:α→Ending→World→Prop) (C:SyC) (o:Nat) (w:World) (R:Sy α) (e:Ending) (w':World):Prop:=
 But C.z w w'∧(match R with | .ok x=>V x.1 e w'∧Syr C w' x.2 o | .error x=>e=aC x.1 x.2)
section
variable {α:Type} {V:α→Ending→World→Prop} {C:SyC} {o:Nat} {w w':World} {R:Sy α} {e:Ending}
theorem nI {a:α} {j:List Tk} (h:R=.ok (a,j)) (hb:But C.z w w') (hv:V a e w') (hr:Syr C w' j o):fV V C o w R e w':=by subst h;exact⟨hb,hv,hr⟩
theorem fH {er:Int} {i:Nat} (h:R=.error (er,i)) (hb:But C.z w w') (he:e=aC er i):fV V C o w R e w':=by subst h;exact⟨hb,he⟩
theorem dC {a:α} {j:List Tk} (h:fV V C o w R e w') (hr:R=.ok (a,j)):But C.z w w'∧V a e w'∧Syr C w' j o:=by subst hr;exact⟨h.1,h.2.1,h.2.2⟩
theorem dB {er:Int} {i:Nat} (h:fV V C o w R e w') (hr:R=.error (er,i)):But C.z w w'∧e=aC er i:=by subst hr;exact h
end
def Cx (_:Unit) (e:Ending) (_:World):Prop:=e=.returned (.tuple #[])
theorem sJ {C:SyC} {l:List Tk} {o:Nat} (s:ByteArray) (w:World) (hR:Syr C w l o):Calls prog 101 #[.pointer (some ⟨C.z,0,none⟩),.string s] w fun e w'=>fV Cx C o w (ee C.E s l) e w':=by
 unfold ee
 cases hs:aM (ak C.E 0 l) s
 ·have HT:=ab (pr s w hR hs)
  have HS:=ab (fun w h=>rq (C:=C) (l:=l) (o:=o) w h)
  have HR:=ab hR;rw[ac (by decide)]
  show Calls _ _ _ _ fun e w'=>fV Cx C o w (.error (2,(ak C.E 0 l).a)) e w'
  clear hR hs;generalize (ak C.E 0 l).a=a at *;go_enter func101,ntmps101;go_wp2_with fail;refine(aa HT).mono ?_;rintro e w2 ⟨rfl,hb2⟩;have aF:=ab hb2;clear hb2;go_wp2_with fail;refine(aa HS _ ((aa HR).below (aa aF))).mono ?_;rintro e w3 ⟨rfl,hb3⟩;have aq:=ab (ap (aa aF) hb3);clear hb3;unfold aC;go_wp2_with fail;exact⟨rfl,fH rfl (But.of_below (aa aq)) rfl⟩
 ·have HT:=ab (pq s w hR hs)
  rw[af rfl];show Calls _ _ _ _ fun e w'=>fV Cx C o w (.ok ((),l.tail)) e w'
  clear hR hs;go_enter func101,ntmps101;go_wp2_with fail;refine(aa HT).mono ?_;rintro e w2 ⟨rfl,hb2,db⟩;have aF:=ab hb2;have HR2:=ab db;clear hb2 db;go_wp2_with fail;go_end0;exact nI rfl (aa aF) rfl (aa HR2)
end Go.Proofs.YtlmnjbipfacniaaGreatDoor
