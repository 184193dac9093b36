/- What strings.HasPrefix and strings.TrimSuffix answer, laid f -/
import Derived.Below
import Derived.Shelf.LaysM
import Derived.Shelf.Strings.Prefix
import Derived.Test.YtlmnjbipfacniaaGreatDoorProg
import Derived.Test.YtlmnjbipfacniaaGreatDoorLexRepLibMs
import Derived.Test.YtlmnjbipfacniaaGreatDoorSyLeMs
import Derived.Test.YtlmnjbipfacniaaGreatDoorRdNzMs
namespace Go.Proofs
open Go.Shelf Go.RowKit Go.Lib
def Tryz.lays99_ren:Go.Shelf.Ren:=⟨fun | 99=>21 | 206=>46 | n=>n,fun | 9=>9 | 4=>4 | 3=>3 | n=>n,fun | n=>n⟩
theorem Tryz.lays99:Go.Proofs.Lays.n99 Tryz.prog Tryz.lays99_ren:={
 mixed:=by kernel_rfl
 f99:=Tryz.func21.trans (congrArg some (by kernel_rfl))
 f206:=Tryz.func46.trans (congrArg some (by kernel_rfl))
 t3:=Tryz.underlying3
 a3:=Tryz.isAgg3
 z3:=Tryz.sizeOf3
 v3:=Tryz.zeroValue3
 t4:=Tryz.underlying4
 a4:=Tryz.isAgg4
 z4:=Tryz.sizeOf4
 v4:=Tryz.zeroValue4
 t9:=Tryz.underlying9
 a9:=Tryz.isAgg9
 z9:=Tryz.sizeOf9
 v9:=Tryz.zeroValue9}
theorem Tryz.strings_HasPrefix (s p:ByteArray) (w:World):
  Calls Tryz.prog 21 #[.string s,.string p] w fun e w'=>e=.returned (.bool (Lib.hasPrefix s.data.toList p.data.toList))∧w'=w:=Any.strings_HasPrefix Tryz.lays99 s p w
def Tryz.lays102_ren:Go.Shelf.Ren:=⟨fun | 102=>68 | 209=>111 | 207=>140 | n=>n,fun | 9=>9 | 4=>4 | 3=>3 | n=>n,fun | n=>n⟩
theorem Tryz.lays102:Go.Proofs.Lays.n102 Tryz.prog Tryz.lays102_ren:={
 mixed:=by kernel_rfl
 f102:=Tryz.func68.trans (congrArg some (by kernel_rfl))
 f207:=Tryz.func140.trans (congrArg some (by kernel_rfl))
 f209:=Tryz.func111.trans (congrArg some (by kernel_rfl))
 t3:=Tryz.underlying3
 a3:=Tryz.isAgg3
 z3:=Tryz.sizeOf3
 v3:=Tryz.zeroValue3
 t4:=Tryz.underlying4
 a4:=Tryz.isAgg4
 z4:=Tryz.sizeOf4
 v4:=Tryz.zeroValue4
 t9:=Tryz.underlying9
 a9:=Tryz.isAgg9
 z9:=Tryz.sizeOf9
 v9:=Tryz.zeroValue9}
theorem Tryz.strings_TrimSuffix (s p:ByteArray) (w:World) (hs:s.size≤9223372036854775807):
  Calls Tryz.prog 68 #[.string s,.string p] w fun e w'=>e=.returned (.string ⟨(Lib.trimSuffix s.data.toList p.data.toList).toArray⟩)∧w'=w:=Any.strings_TrimSuffix Tryz.lays102 s p w hs
end Go.Proofs
namespace Go.Proofs.YtlmnjbipfacniaaGreatDoor
open Go.RowKit
theorem rdP_nz {s:ByteArray} {er:Int} {a:Nat} (h:j2 s=.error (er,a)):er≠0:=by
 unfold j2 at h;split at h
 ·injection h with h;injection h with h _;omega
 ·rcases dX h with h | ⟨p,j,h1,h⟩
  ·exact BW h
  ·split at h
   ·cases h
   ·injection h with h;injection h with h _;omega
def az {α:Type} (R:Sy α):Prop:=∀er a,R=.error (er,a)→er≠0
section
variable {α β:Type}
theorem az.err {er:Int} {a:Nat} (h:er≠0):az (α:=α) (.error (er,a)):=fun _ _ q=>by injection q with q;injection q with q _;rw[←q];exact h
theorem az.ok (x:α × List Tk):az (.ok x):=fun _ _ q=>by cases q
theorem az.bind {R:Sy α} {f:α→List Tk→Sy β} (h:az R) (k:∀a j,R=.ok (a,j)→az (f a j)):az (aR R f):=fun er a q=>by
 cases hr:R with
 | error e=>rw[hr,di] at q;injection q with q;rw[q] at hr;exact h er a hr
 | ok v=>rw[hr] at q;exact k v.1 v.2 hr er a q
theorem az.ite {c:Prop} [Decidable c] {a b:Sy α} (h:c→az a) (k:¬c→az b):az (if c then a else b):=by
 split
 ·exact h ‹_›
 ·exact k ‹_›
end
section
variable {E:Nat}
theorem sX (s:ByteArray) (l:List Tk):az (ef E s l):=az.ite (fun _=>az.ok _) fun _=>az.err (by decide)
theorem ur (l:List Tk):az (dL E l):=az.ite (fun _=>az.ite (fun _=>az.ok _) fun _=>az.err (by decide)) fun _=>az.err (by decide)
theorem FQ (l:List Tk):az (mB E l):=az.ite (fun _=>az.err (by decide)) fun _=>az.ite (fun _=>az.err (by decide)) fun _=>az.ok _
theorem FS:∀(f:Nat) (o:List ByteArray) (l:List Tk),9≤f+o.length→o.length≤8→az (ja E f o l)
 | 0,o,l,h,h8=>by omega
 | f+1,o,l,h,h8=>by
  unfold ja;exact az.bind (ur l) fun t r _=>az.ite (fun _=>az.err (by decide)) fun q=>az.ite (fun _=>FS f _ r.tail (by rw[be,List.length_singleton];omega) (by rw[be,List.length_singleton];omega)) fun _=>az.ok _
theorem FR (l:List Tk):az (pX E l):=FS 9 [] l (aw _) (cU _)
theorem FG (l:List Tk):az (lV E l):=az.ite (fun _=>by
 cases h:j2 (ak E 0 l).t with
 | error e=>
  refine az.err ?_;have h2:j2 (ak E 0 l).t=.error (e.1,e.2):=h;exact rdP_nz h2
 | ok v=>exact az.ok _) fun _=>az.err (by decide)
theorem Gb {α:Type} {R:Sy α} {x:Int × Nat} (h:az R) (hx:x.1≠0):(erO R x).1≠0:=by
 cases hr:R with
 | error e=>exact h e.1 e.2 (by rw[hr])
 | ok v=>exact hx
theorem tmS_nz {α:Type} (l:List Tk):az (tmS (α:=α) E l):=by
 have:(pV E l).1≠0:=by
  unfold pV;split
  ·exact Gb (ur l) (by show (5:Int)≠0;decide)
  ·split
   ·exact Gb (FQ l) (by show (5:Int)≠0;decide)
   ·split
    ·show (5:Int)≠0;decide
    ·split
     ·show (5:Int)≠0;decide
     ·show (2:Int)≠0;decide
 exact az.err this
def rY (p:Option Lv):Prop:=∀q,p=some q→∀l:List Tk,az (q.sg l)∧az (q.pi l)∧az (q.xp l)
variable {p:Option Lv}
theorem zZ (h:rY p) (l:List Tk):az (eX E p l):=by
 unfold eX;split
 ·exact az.err (by decide)
 ·exact(h _ rfl l).2.2
theorem piO_nz (h:rY p) (l:List Tk):az (uD E p l):=by
 unfold uD;split
 ·exact az.err (by decide)
 ·exact(h _ rfl l).2.1
theorem sgO_nz (h:rY p) (l:List Tk):az (uC E p l):=by
 unfold uC;split
 ·exact az.err (by decide)
 ·exact(h _ rfl l).1
theorem Gu (h:rY p):∀(f:Nat) (o:List PT) (l:List Tk),9≤f+o.length→o.length≤8→az (iO E p f o l)
 | 0,o,l,hf,h8=>by omega
 | f+1,o,l,hf,h8=>by
  unfold iO;exact az.ite (fun _=>tmS_nz l) fun q=>az.bind (zZ h l) fun x r _=>az.ite (fun _=>Gu h f _ r.tail (by rw[be,List.length_singleton];omega) (by rw[be,List.length_singleton];omega)) fun _=>az.bind (sX _ r) fun _ _ _=>az.ok _
theorem agS_nz (h:rY p) (l:List Tk):az (na E p l):=az.ite (fun _=>az.ok _) fun _=>Gu h 9 [] l (aw _) (cU _)
theorem npS_nz (h:rY p) (l:List Tk):az (kE E p l):=az.bind (ur l) fun _ r _=>az.ite (fun _=>az.bind (zZ h r.tail) fun _ q _=>az.bind (sX _ q) fun _ _ _=>az.ok _) fun _=>az.ite (fun _=>az.bind (agS_nz h r.tail) fun _ _ _=>az.ok _) fun _=>az.ok _
theorem FI (h:rY p) (l:List Tk):az (eY E p l):=
 az.ite (fun _=>npS_nz h l) fun _=>az.ite (fun _=>az.bind (FQ l) fun _ _ _=>az.ok _) fun _=>az.ite (fun _=>az.ok _) fun _=>az.ite (fun _=>az.bind (piO_nz h l.tail) fun _ _ _=>az.ok _) fun _=>
  az.bind (sX _ l) fun _ r _=>az.bind (zZ h r) fun _ q _=>az.bind (sX _ q) fun _ _ _=>az.ok _
theorem Fy (h:rY p) (l:List Tk):az (gc E p l):=az.ite (fun _=>az.bind (sgO_nz h l.tail) fun _ _ _=>az.ok _) fun _=>FI h l
theorem Fz {lv:Nat} {N:List Tk→Sy PT} (hN:∀l,az (N l)) (hL:∀l,Le l.length (N l)):∀(f:Nat) (x:PT) (l:List Tk),l.length < f→az (kD E lv N f x l)
 | 0,x,l,h=>by omega
 | f+1,x,l,h=>by
  unfold kD;refine az.ite (fun _=>az.ok _) fun hk=>az.bind (hN l.tail) fun y r hr=>Fz hN hL f _ r ?_
  have h3:=hL l.tail y r hr;have hl:l≠[]:=by rintro rfl;exact hk rfl
  have h4:l.tail.length < l.length:=by rw[List.length_tail];have:=Ar.2 hl;omega
  omega
theorem BU {lv:Nat} {N:List Tk→Sy PT} (hN:∀l,az (N l)) (hL:∀l,Le l.length (N l)) (l:List Tk):az (lG E lv N l):=az.bind (hN l) fun x r _=>Fz hN hL _ x r (Nat.lt_succ_self _)
theorem Mi (h:rY p) (h2:pU p) (lv:Nat) (l:List Tk):az (lF E p lv l):=by
 have a4:∀l,az (gc E p l):=fun l=>Fy h l
 have b4:∀l:List Tk,Le l.length (gc E p l):=fun l=>xi h2 l
 have a3:∀l,az (lG E 3 (gc E p) l):=BU a4 b4;have b3:∀l:List Tk,Le l.length (lG E 3 (gc E p) l):=uq b4;have a2:∀l,az (lG E 2 (lG E 3 (gc E p)) l):=BU a3 b3;have b2:∀l:List Tk,Le l.length (lG E 2 (lG E 3 (gc E p)) l):=uq b3;unfold lF;split
 ·exact BU a2 b2 l
 ·split
  ·exact a2 l
  ·split
   ·exact a3 l
   ·exact a4 l
theorem FY:∀d:Nat,rY (bV E d)
 | 0=>fun q h=>by cases h
 | d+1=>fun q h l=>by
  have:=FY d;injection h with h
  subst h;exact⟨Fy this l,FI this l,Mi this (Ad d) 1 l⟩
theorem F7 (d:Nat) (l:List Tk):az (exS E d l):=zZ (FY d) l
theorem dpS_nz (l:List Tk):az (dpS E l):=az.ite (fun _=>az.ok _) fun _=>az.bind (FR l) fun _ r _=>az.bind (sX _ r) fun _ _ _=>az.ok _
theorem dlS_nz (l:List Tk):az (uG E l):=az.ite (fun _=>FR l) fun _=>az.ok _
theorem dfS_nz (l:List Tk):az (dfS E l):=az.bind (ur l) fun _ r _=>az.bind (sX _ r) fun _ r _=>az.bind (dpS_nz r) fun _ r _=>az.bind (dlS_nz r) fun _ r _=>az.bind (ur r) fun _ _ _=>az.ok _
theorem evP_nz (l:List Tk):az (evP E l):=az.ite (fun _=>az.bind (FG l.tail) fun _ _ _=>az.ok _) fun _=>az.ok _
theorem evG_nz (d:Nat) (x:PT) (a:Nat) (l:List Tk):az (uF E d x a l):=az.ite (fun _=>az.ite (fun _=>az.bind (F7 d l.tail) fun _ _ _=>az.ok _) fun _=>az.err (by decide)) fun _=>az.ok _
theorem ddS_nz (d:Nat) (S:SV) (l:List Tk):az (el E d S l):=
 az.ite (fun _=>az.ok _) fun _=>az.ite (fun _=>az.bind (dfS_nz l.tail) fun _ _ _=>az.ok _) fun _=>az.ite (fun _=>az.bind (ur l) fun _ r _=>az.bind (sX _ r) fun _ q _=>az.bind (FG q) fun _ _ _=>az.ok _) fun _=>
  az.bind (F7 d l) fun _ r _=>az.bind (evP_nz r) fun _ q _=>az.bind (evG_nz d _ _ q) fun _ _ _=>az.ok _
theorem BQ (l:List Tk):az (j1 E l):=az.bind (sX _ l) fun _ r _=>az.bind (ur r) fun _ q _=>az.bind (sX _ q) fun _ _ _=>az.ok _
theorem Fw (y:Bool) (S:SV) (l:List Tk):az (m5 E y S l):=az.ite (fun _=>az.bind (BQ l.tail) fun _ _ _=>az.ok _) fun _=>az.ite (fun _=>az.ok _) fun _=>az.err (by decide)
theorem wyS_nz (S:SV) (l:List Tk):az (fZ E S l):=
 az.ite (fun _=>az.ite (fun _=>az.bind (BQ l.tail) fun _ _ _=>az.ok _) fun _=>az.ite (fun _=>az.bind (BQ l.tail.tail) fun _ r _=>Fw true _ r) fun _=>Fw false S l.tail) fun _=>az.ok _
end
theorem BX (s:ByteArray) (l:List Tk):az (qQ s l):=
 az.bind (az.ite (fun _=>ur l) fun _=>az.ok _) fun _ r _=>az.bind (ddS_nz 400 _ r) fun _ q _=>az.bind (wyS_nz _ q) fun _ _ _=>az.ite (fun _=>az.ok _) fun _=>az.err (by decide)
end Go.Proofs.YtlmnjbipfacniaaGreatDoor
