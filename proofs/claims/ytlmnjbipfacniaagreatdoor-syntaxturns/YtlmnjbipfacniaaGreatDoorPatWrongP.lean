/- What pats.wrongNode, wrongBelow and Wrong do, for every patt -/
import Derived.Test.YtlmnjbipfacniaaGreatDoorPatSizeP
set_option maxRecDepth 100000
set_option maxHeartbeats 1000000
namespace Go.Proofs.YtlmnjbipfacniaaGreatDoor
open Go.Proofs.Tryz
open Go.RowKit
def Dk:List ByteArray:=[⟨#[]⟩,⟨#[]⟩,⟨#[76,69,78]⟩,⟨#[65,78,89]⟩,⟨#[78,79,84,65,78,89]⟩,⟨#[83,80,65,78]⟩,⟨#[66,82,69,65,75]⟩,⟨#[66,82,69,65,75,88]⟩,⟨#[84,65,66]⟩,⟨#[82,84,65,66]⟩,⟨#[80,79,83]⟩,⟨#[82,80,79,83]⟩,⟨#[82,69,77]⟩,⟨#[65,82,66]⟩,⟨#[66,65,76]⟩,⟨#[70,65,73,76]⟩,⟨#[70,69,78,67,69]⟩,⟨#[65,66,79,82,84]⟩,⟨#[]⟩,⟨#[]⟩,⟨#[65,82,66,78,79]⟩,⟨#[]⟩,⟨#[]⟩,⟨#[]⟩,⟨#[]⟩]
def aQ (K:Nat):ByteArray:=Dk.getD K ByteArray.empty
def dI (w:World):Prop:=∀K,1≤K→K≤24→w.cell? ⟨1,K * 4,none⟩=some (.string (aQ K))∧w.cell? ⟨1,K * 4+1,none⟩=some (.int .i64 (aE K))∧w.cell? ⟨1,K * 4+2,none⟩=some (.int .i64 (co K))∧w.cell? ⟨1,K * 4+3,none⟩=some (.int .i64 (cD K))
theorem dI.later {w w':World} (h:dI w) (hb:Below w.heap.size w w'):dI w':=fun K h1 h2=>by
 obtain⟨a,b,c,d⟩:=h K h1 h2;exact⟨av hb a,av hb b,av hb c,av hb d⟩
theorem DQ (K:Int):aE K=0∨aE K=1∨aE K=2∨aE K=3:=by unfold aE;split <;> (try split) <;> (try split) <;> simp
theorem J6 (T:PT) (w:World) (h:T.k < 1∨24 < T.k):
  Calls prog 109 #[pv T] w fun e w'=>e=.returned (.int .i64 (bI T))∧Below w.heap.size w w':=by
 unfold pv;have HE:Hid (bI T=1):=ab (by unfold bI;rw[af h])
 rw[aa HE];rcases h with h | h
 ·go_enter func109,ntmps109
  go_wp2_with fail;go_ret;exact⟨rfl,ba _⟩
 ·have h1:¬T.k < 1:=by omega
  go_enter func109,ntmps109;go_wp2_with fail;go_ret;exact⟨rfl,ba _⟩
theorem J4 (T:PT) (w:World) (hS:dI w) (h:¬(T.k < 1∨24 < T.k)) (hh:aE T.k=1) (hl:65536 < T.t.size):
  Calls prog 109 #[pv T] w fun e w'=>e=.returned (.int .i64 (bI T))∧Below w.heap.size w w':=by
 unfold pv;have HE:Hid (bI T=4):=ab (by unfold bI;rw[ac h,af ⟨hh,hl⟩])
 rw[aa HE];obtain⟨K,hK⟩:∃K:Nat,T.k=(K:Int):=⟨T.k.toNat,by omega⟩
 obtain⟨s0,s1,s2,s3⟩:=hS K (by omega) (by omega)
 have hz:1 < w.heap.size:=de _ _ s0;have hz':¬w.heap.size=1:=by omega
 rw[←hK,hh] at s1;rw[←hK] at s2 s3;have h1:¬(K:Int) < 1:=by omega
 have h2:¬24 < (K:Int):=by omega
 have h3:65536 < (T.t.size:Int):=by omega
 clear hS h hh HE;generalize co T.k=least at *;generalize cD T.k=most at *;rw[hK];clear hK;go_enter func109,ntmps109;go_wp2_with fail;go_ret;exact⟨rfl,(ba _).alloc (by simp) _⟩
theorem Jj (T:PT) (w:World) (hS:dI w) (h:¬(T.k < 1∨24 < T.k)) (hh:aE T.k=1) (hk:T.k≠1) (hl:T.t.size=0):
  Calls prog 109 #[pv T] w fun e w'=>e=.returned (.int .i64 (bI T))∧Below w.heap.size w w':=by
 unfold pv;have HE:Hid (bI T=8):=ab (by unfold bI;rw[ac h,ac (by omega),af ⟨hh,hk,hl⟩])
 rw[aa HE];obtain⟨K,hK⟩:∃K:Nat,T.k=(K:Int):=⟨T.k.toNat,by omega⟩
 obtain⟨s0,s1,s2,s3⟩:=hS K (by omega) (by omega)
 have hz:1 < w.heap.size:=de _ _ s0;have hz':¬w.heap.size=1:=by omega
 rw[←hK,hh] at s1;rw[←hK] at s2 s3;have h1:¬(K:Int) < 1:=by omega
 have h2:¬24 < (K:Int):=by omega
 have h3:¬65536 < (T.t.size:Int):=by omega
 have h4:=AX T.t hl;have h5:((K:Int) !=1)=true:=by rw[rU];omega
 rw[hK] at hk;clear hS h hh HE;generalize co T.k=least at *;generalize cD T.k=most at *;rw[hK];clear hK;go_enter func109,ntmps109;go_wp2_with fail;go_ret;exact⟨rfl,(ba _).alloc (by simp) _⟩
theorem LG (T:PT) (w:World) (hS:dI w) (h:¬(T.k < 1∨24 < T.k)) (hh:aE T.k=2) (hl:T.n < 0):
  Calls prog 109 #[pv T] w fun e w'=>e=.returned (.int .i64 (bI T))∧Below w.heap.size w w':=by
 unfold pv;have HE:Hid (bI T=3):=ab (by unfold bI;rw[ac h,ac (by omega),ac (by omega),af ⟨hh,.inl hl⟩])
 rw[aa HE];obtain⟨K,hK⟩:∃K:Nat,T.k=(K:Int):=⟨T.k.toNat,by omega⟩
 obtain⟨s0,s1,s2,s3⟩:=hS K (by omega) (by omega)
 have hz:1 < w.heap.size:=de _ _ s0;have hz':¬w.heap.size=1:=by omega
 rw[←hK,hh] at s1;rw[←hK] at s2 s3;have h1:¬(K:Int) < 1:=by omega
 have h2:¬24 < (K:Int):=by omega
 have h3:T.n < 0:=hl;clear hS h hh HE;generalize co T.k=least at *;generalize cD T.k=most at *;rw[hK];clear hK;go_enter func109,ntmps109;go_wp2_with fail;go_ret;exact⟨rfl,(ba _).alloc (by simp) _⟩
theorem J7 (T:PT) (w:World) (hS:dI w) (h:¬(T.k < 1∨24 < T.k)) (hh:aE T.k=2) (hl:65536 < T.n):
  Calls prog 109 #[pv T] w fun e w'=>e=.returned (.int .i64 (bI T))∧Below w.heap.size w w':=by
 unfold pv;have HE:Hid (bI T=3):=ab (by unfold bI;rw[ac h,ac (by omega),ac (by omega),af ⟨hh,.inr hl⟩])
 rw[aa HE];obtain⟨K,hK⟩:∃K:Nat,T.k=(K:Int):=⟨T.k.toNat,by omega⟩
 obtain⟨s0,s1,s2,s3⟩:=hS K (by omega) (by omega)
 have hz:1 < w.heap.size:=de _ _ s0;have hz':¬w.heap.size=1:=by omega
 rw[←hK,hh] at s1;rw[←hK] at s2 s3;have h1:¬(K:Int) < 1:=by omega
 have h2:¬24 < (K:Int):=by omega
 have h3:¬T.n < 0:=by omega
 clear hS h hh HE;generalize co T.k=least at *;generalize cD T.k=most at *;rw[hK];clear hK;go_enter func109,ntmps109;go_wp2_with fail;go_ret;exact⟨rfl,(ba _).alloc (by simp) _⟩
theorem J5 (T:PT) (w:World) (hS:dI w) (h:¬(T.k < 1∨24 < T.k)) (hh:aE T.k=3) (hN:T.nm.size≤maxLen) (hl:bp T.nm=false):
  Calls prog 109 #[pv T] w fun e w'=>e=.returned (.int .i64 (bI T))∧Below w.heap.size w w':=by
 unfold pv;have HE:Hid (bI T=7):=ab (by unfold bI;rw[ac h,ac (by omega),ac (by omega),ac (by omega),af ⟨hh,hl⟩])
 rw[aa HE];obtain⟨K,hK⟩:∃K:Nat,T.k=(K:Int):=⟨T.k.toNat,by omega⟩
 obtain⟨s0,s1,s2,s3⟩:=hS K (by omega) (by omega)
 have hz:1 < w.heap.size:=de _ _ s0;have hz':¬w.heap.size=1:=by omega
 rw[←hK,hh] at s1;rw[←hK] at s2 s3;have h1:¬(K:Int) < 1:=by omega
 have h2:¬24 < (K:Int):=by omega
 have HN:=ab (And.intro hN hl);clear hN hl;clear hS h hh HE;generalize co T.k=least at *;generalize cD T.k=most at *;rw[hK];clear hK;go_enter func109,ntmps109;go_wp2_with (go_at_call 30;refine(qj _ _ (aa HN).1).mono ?_;rintro e w1 ⟨rfl,rfl⟩;rw[(aa HN).2]);go_ret;exact⟨rfl,(ba _).alloc (by simp) _⟩
theorem IE (T:PT) (w:World) (hS:dI w) (h:¬(T.k < 1∨24 < T.k)) (hh:aE T.k=1) (hl:T.t.size≤65536) (hk:T.k=1) (hn:(T.len:Int) < co T.k):
  Calls prog 109 #[pv T] w fun e w'=>e=.returned (.int .i64 (bI T))∧Below w.heap.size w w':=by
 unfold pv;have HE:Hid (bI T=5):=ab (by unfold bI;rw[ac h,ac (by omega),ac (by omega),ac (by omega),ac (by omega),af (.inl hn)])
 rw[aa HE];obtain⟨K,hK⟩:∃K:Nat,T.k=(K:Int):=⟨T.k.toNat,by omega⟩
 obtain⟨s0,s1,s2,s3⟩:=hS K (by omega) (by omega)
 have hz:1 < w.heap.size:=de _ _ s0;have hz':¬w.heap.size=1:=by omega
 rw[←hK,hh] at s1;rw[←hK] at s2 s3;have h1:¬(K:Int) < 1:=by omega
 have h2:¬24 < (K:Int):=by omega
 have h3:¬65536 < (T.t.size:Int):=by omega
 have h5:((K:Int) !=1)=false:=by rw[bne_eq_false_iff_eq];omega
 clear hk;clear hS h hh HE;generalize co T.k=least at *;generalize cD T.k=most at *;rw[hK];clear hK;go_enter func109,ntmps109;go_wp2_with fail;go_ret;exact⟨rfl,(ba _).alloc (by simp) _⟩
theorem IF (T:PT) (w:World) (hS:dI w) (h:¬(T.k < 1∨24 < T.k)) (hh:aE T.k=1) (hl:T.t.size≤65536) (hk:T.k=1) (hm:¬(T.len:Int) < co T.k) (hn:cD T.k < (T.len:Int)):
  Calls prog 109 #[pv T] w fun e w'=>e=.returned (.int .i64 (bI T))∧Below w.heap.size w w':=by
 unfold pv;have HE:Hid (bI T=5):=ab (by unfold bI;rw[ac h,ac (by omega),ac (by omega),ac (by omega),ac (by omega),af (.inr hn)])
 rw[aa HE];obtain⟨K,hK⟩:∃K:Nat,T.k=(K:Int):=⟨T.k.toNat,by omega⟩
 obtain⟨s0,s1,s2,s3⟩:=hS K (by omega) (by omega)
 have hz:1 < w.heap.size:=de _ _ s0;have hz':¬w.heap.size=1:=by omega
 rw[←hK,hh] at s1;rw[←hK] at s2 s3;have h1:¬(K:Int) < 1:=by omega
 have h2:¬24 < (K:Int):=by omega
 have h3:¬65536 < (T.t.size:Int):=by omega
 have h5:((K:Int) !=1)=false:=by rw[bne_eq_false_iff_eq];omega
 clear hk;clear hS h hh HE;generalize co T.k=least at *;generalize cD T.k=most at *;rw[hK];clear hK;go_enter func109,ntmps109;go_wp2_with fail;go_ret;exact⟨rfl,(ba _).alloc (by simp) _⟩
theorem ID (T:PT) (w:World) (hS:dI w) (h:¬(T.k < 1∨24 < T.k)) (hh:aE T.k=1) (hl:T.t.size≤65536) (hk:T.k=1) (hm:¬(T.len:Int) < co T.k) (hn:¬cD T.k < (T.len:Int)):
  Calls prog 109 #[pv T] w fun e w'=>e=.returned (.int .i64 (bI T))∧Below w.heap.size w w':=by
 unfold pv;have HE:Hid (bI T=0):=ab (by unfold bI;rw[ac h,ac (by omega),ac (by omega),ac (by omega),ac (by omega),ac (fun h=>h.elim hm hn)])
 rw[aa HE];obtain⟨K,hK⟩:∃K:Nat,T.k=(K:Int):=⟨T.k.toNat,by omega⟩
 obtain⟨s0,s1,s2,s3⟩:=hS K (by omega) (by omega)
 have hz:1 < w.heap.size:=de _ _ s0;have hz':¬w.heap.size=1:=by omega
 rw[←hK,hh] at s1;rw[←hK] at s2 s3;have h1:¬(K:Int) < 1:=by omega
 have h2:¬24 < (K:Int):=by omega
 have h3:¬65536 < (T.t.size:Int):=by omega
 have h5:((K:Int) !=1)=false:=by rw[bne_eq_false_iff_eq];omega
 clear hk;clear hS h hh HE;generalize co T.k=least at *;generalize cD T.k=most at *;rw[hK];clear hK;go_enter func109,ntmps109;go_wp2_with fail;go_ret;exact⟨rfl,(ba _).alloc (by simp) _⟩
theorem Ib (T:PT) (w:World) (hS:dI w) (h:¬(T.k < 1∨24 < T.k)) (hh:aE T.k=1) (hl:T.t.size≤65536) (hk:T.k≠1) (h0:T.t.size≠0) (hn:(T.len:Int) < co T.k):
  Calls prog 109 #[pv T] w fun e w'=>e=.returned (.int .i64 (bI T))∧Below w.heap.size w w':=by
 unfold pv;have HE:Hid (bI T=5):=ab (by unfold bI;rw[ac h,ac (by omega),ac (by omega),ac (by omega),ac (by omega),af (.inl hn)])
 rw[aa HE];obtain⟨K,hK⟩:∃K:Nat,T.k=(K:Int):=⟨T.k.toNat,by omega⟩
 obtain⟨s0,s1,s2,s3⟩:=hS K (by omega) (by omega)
 have hz:1 < w.heap.size:=de _ _ s0;have hz':¬w.heap.size=1:=by omega
 rw[←hK,hh] at s1;rw[←hK] at s2 s3;have h1:¬(K:Int) < 1:=by omega
 have h2:¬24 < (K:Int):=by omega
 have h3:¬65536 < (T.t.size:Int):=by omega
 have h4:=xI T.t h0;have h5:((K:Int) !=1)=true:=by rw[rU];omega
 clear hk;clear hS h hh HE;generalize co T.k=least at *;generalize cD T.k=most at *;rw[hK];clear hK;go_enter func109,ntmps109;go_wp2_with fail;go_ret;exact⟨rfl,(ba _).alloc (by simp) _⟩
theorem Ic (T:PT) (w:World) (hS:dI w) (h:¬(T.k < 1∨24 < T.k)) (hh:aE T.k=1) (hl:T.t.size≤65536) (hk:T.k≠1) (h0:T.t.size≠0) (hm:¬(T.len:Int) < co T.k) (hn:cD T.k < (T.len:Int)):
  Calls prog 109 #[pv T] w fun e w'=>e=.returned (.int .i64 (bI T))∧Below w.heap.size w w':=by
 unfold pv;have HE:Hid (bI T=5):=ab (by unfold bI;rw[ac h,ac (by omega),ac (by omega),ac (by omega),ac (by omega),af (.inr hn)])
 rw[aa HE];obtain⟨K,hK⟩:∃K:Nat,T.k=(K:Int):=⟨T.k.toNat,by omega⟩
 obtain⟨s0,s1,s2,s3⟩:=hS K (by omega) (by omega)
 have hz:1 < w.heap.size:=de _ _ s0;have hz':¬w.heap.size=1:=by omega
 rw[←hK,hh] at s1;rw[←hK] at s2 s3;have h1:¬(K:Int) < 1:=by omega
 have h2:¬24 < (K:Int):=by omega
 have h3:¬65536 < (T.t.size:Int):=by omega
 have h4:=xI T.t h0;have h5:((K:Int) !=1)=true:=by rw[rU];omega
 clear hk;clear hS h hh HE;generalize co T.k=least at *;generalize cD T.k=most at *;rw[hK];clear hK;go_enter func109,ntmps109;go_wp2_with fail;go_ret;exact⟨rfl,(ba _).alloc (by simp) _⟩
theorem Ia (T:PT) (w:World) (hS:dI w) (h:¬(T.k < 1∨24 < T.k)) (hh:aE T.k=1) (hl:T.t.size≤65536) (hk:T.k≠1) (h0:T.t.size≠0) (hm:¬(T.len:Int) < co T.k) (hn:¬cD T.k < (T.len:Int)):
  Calls prog 109 #[pv T] w fun e w'=>e=.returned (.int .i64 (bI T))∧Below w.heap.size w w':=by
 unfold pv;have HE:Hid (bI T=0):=ab (by unfold bI;rw[ac h,ac (by omega),ac (by omega),ac (by omega),ac (by omega),ac (fun h=>h.elim hm hn)])
 rw[aa HE];obtain⟨K,hK⟩:∃K:Nat,T.k=(K:Int):=⟨T.k.toNat,by omega⟩
 obtain⟨s0,s1,s2,s3⟩:=hS K (by omega) (by omega)
 have hz:1 < w.heap.size:=de _ _ s0;have hz':¬w.heap.size=1:=by omega
 rw[←hK,hh] at s1;rw[←hK] at s2 s3;have h1:¬(K:Int) < 1:=by omega
 have h2:¬24 < (K:Int):=by omega
 have h3:¬65536 < (T.t.size:Int):=by omega
 have h4:=xI T.t h0;have h5:((K:Int) !=1)=true:=by rw[rU];omega
 clear hk;clear hS h hh HE;generalize co T.k=least at *;generalize cD T.k=most at *;rw[hK];clear hK;go_enter func109,ntmps109;go_wp2_with fail;go_ret;exact⟨rfl,(ba _).alloc (by simp) _⟩
theorem Iv (T:PT) (w:World) (hS:dI w) (h:¬(T.k < 1∨24 < T.k)) (hh:aE T.k=2) (hl:0≤T.n) (hk:T.n≤65536) (hn:(T.len:Int) < co T.k):
  Calls prog 109 #[pv T] w fun e w'=>e=.returned (.int .i64 (bI T))∧Below w.heap.size w w':=by
 unfold pv;have HE:Hid (bI T=5):=ab (by unfold bI;rw[ac h,ac (by omega),ac (by omega),ac (by omega),ac (by omega),af (.inl hn)])
 rw[aa HE];obtain⟨K,hK⟩:∃K:Nat,T.k=(K:Int):=⟨T.k.toNat,by omega⟩
 obtain⟨s0,s1,s2,s3⟩:=hS K (by omega) (by omega)
 have hz:1 < w.heap.size:=de _ _ s0;have hz':¬w.heap.size=1:=by omega
 rw[←hK,hh] at s1;rw[←hK] at s2 s3;have h1:¬(K:Int) < 1:=by omega
 have h2:¬24 < (K:Int):=by omega
 have h3:¬T.n < 0:=by omega
 have h4:¬65536 < T.n:=by omega
 clear hS h hh HE;generalize co T.k=least at *;generalize cD T.k=most at *;rw[hK];clear hK;go_enter func109,ntmps109;go_wp2_with fail;go_ret;exact⟨rfl,(ba _).alloc (by simp) _⟩
theorem Iw (T:PT) (w:World) (hS:dI w) (h:¬(T.k < 1∨24 < T.k)) (hh:aE T.k=2) (hl:0≤T.n) (hk:T.n≤65536) (hm:¬(T.len:Int) < co T.k) (hn:cD T.k < (T.len:Int)):
  Calls prog 109 #[pv T] w fun e w'=>e=.returned (.int .i64 (bI T))∧Below w.heap.size w w':=by
 unfold pv;have HE:Hid (bI T=5):=ab (by unfold bI;rw[ac h,ac (by omega),ac (by omega),ac (by omega),ac (by omega),af (.inr hn)])
 rw[aa HE];obtain⟨K,hK⟩:∃K:Nat,T.k=(K:Int):=⟨T.k.toNat,by omega⟩
 obtain⟨s0,s1,s2,s3⟩:=hS K (by omega) (by omega)
 have hz:1 < w.heap.size:=de _ _ s0;have hz':¬w.heap.size=1:=by omega
 rw[←hK,hh] at s1;rw[←hK] at s2 s3;have h1:¬(K:Int) < 1:=by omega
 have h2:¬24 < (K:Int):=by omega
 have h3:¬T.n < 0:=by omega
 have h4:¬65536 < T.n:=by omega
 clear hS h hh HE;generalize co T.k=least at *;generalize cD T.k=most at *;rw[hK];clear hK;go_enter func109,ntmps109;go_wp2_with fail;go_ret;exact⟨rfl,(ba _).alloc (by simp) _⟩
theorem Iu (T:PT) (w:World) (hS:dI w) (h:¬(T.k < 1∨24 < T.k)) (hh:aE T.k=2) (hl:0≤T.n) (hk:T.n≤65536) (hm:¬(T.len:Int) < co T.k) (hn:¬cD T.k < (T.len:Int)):
  Calls prog 109 #[pv T] w fun e w'=>e=.returned (.int .i64 (bI T))∧Below w.heap.size w w':=by
 unfold pv;have HE:Hid (bI T=0):=ab (by unfold bI;rw[ac h,ac (by omega),ac (by omega),ac (by omega),ac (by omega),ac (fun h=>h.elim hm hn)])
 rw[aa HE];obtain⟨K,hK⟩:∃K:Nat,T.k=(K:Int):=⟨T.k.toNat,by omega⟩
 obtain⟨s0,s1,s2,s3⟩:=hS K (by omega) (by omega)
 have hz:1 < w.heap.size:=de _ _ s0;have hz':¬w.heap.size=1:=by omega
 rw[←hK,hh] at s1;rw[←hK] at s2 s3;have h1:¬(K:Int) < 1:=by omega
 have h2:¬24 < (K:Int):=by omega
 have h3:¬T.n < 0:=by omega
 have h4:¬65536 < T.n:=by omega
 clear hS h hh HE;generalize co T.k=least at *;generalize cD T.k=most at *;rw[hK];clear hK;go_enter func109,ntmps109;go_wp2_with fail;go_ret;exact⟨rfl,(ba _).alloc (by simp) _⟩
theorem IB (T:PT) (w:World) (hS:dI w) (h:¬(T.k < 1∨24 < T.k)) (hh:aE T.k=3) (hN:T.nm.size≤maxLen) (hl:bp T.nm=true) (hn:(T.len:Int) < co T.k):
  Calls prog 109 #[pv T] w fun e w'=>e=.returned (.int .i64 (bI T))∧Below w.heap.size w w':=by
 unfold pv;have HE:Hid (bI T=5):=ab (by unfold bI;rw[ac h,ac (by omega),ac (by omega),ac (by omega),ac (by rw[hl];simp),af (.inl hn)])
 rw[aa HE];obtain⟨K,hK⟩:∃K:Nat,T.k=(K:Int):=⟨T.k.toNat,by omega⟩
 obtain⟨s0,s1,s2,s3⟩:=hS K (by omega) (by omega)
 have hz:1 < w.heap.size:=de _ _ s0;have hz':¬w.heap.size=1:=by omega
 rw[←hK,hh] at s1;rw[←hK] at s2 s3;have h1:¬(K:Int) < 1:=by omega
 have h2:¬24 < (K:Int):=by omega
 have HN:=ab (And.intro hN hl);clear hN hl;clear hS h hh HE;generalize co T.k=least at *;generalize cD T.k=most at *;rw[hK];clear hK;go_enter func109,ntmps109;go_wp2_with (go_at_call 30;refine(qj _ _ (aa HN).1).mono ?_;rintro e w1 ⟨rfl,rfl⟩;rw[(aa HN).2]);go_ret;exact⟨rfl,(ba _).alloc (by simp) _⟩
theorem IC (T:PT) (w:World) (hS:dI w) (h:¬(T.k < 1∨24 < T.k)) (hh:aE T.k=3) (hN:T.nm.size≤maxLen) (hl:bp T.nm=true) (hm:¬(T.len:Int) < co T.k) (hn:cD T.k < (T.len:Int)):
  Calls prog 109 #[pv T] w fun e w'=>e=.returned (.int .i64 (bI T))∧Below w.heap.size w w':=by
 unfold pv;have HE:Hid (bI T=5):=ab (by unfold bI;rw[ac h,ac (by omega),ac (by omega),ac (by omega),ac (by rw[hl];simp),af (.inr hn)])
 rw[aa HE];obtain⟨K,hK⟩:∃K:Nat,T.k=(K:Int):=⟨T.k.toNat,by omega⟩
 obtain⟨s0,s1,s2,s3⟩:=hS K (by omega) (by omega)
 have hz:1 < w.heap.size:=de _ _ s0;have hz':¬w.heap.size=1:=by omega
 rw[←hK,hh] at s1;rw[←hK] at s2 s3;have h1:¬(K:Int) < 1:=by omega
 have h2:¬24 < (K:Int):=by omega
 have HN:=ab (And.intro hN hl);clear hN hl;clear hS h hh HE;generalize co T.k=least at *;generalize cD T.k=most at *;rw[hK];clear hK;go_enter func109,ntmps109;go_wp2_with (go_at_call 30;refine(qj _ _ (aa HN).1).mono ?_;rintro e w1 ⟨rfl,rfl⟩;rw[(aa HN).2]);go_ret;exact⟨rfl,(ba _).alloc (by simp) _⟩
theorem IA (T:PT) (w:World) (hS:dI w) (h:¬(T.k < 1∨24 < T.k)) (hh:aE T.k=3) (hN:T.nm.size≤maxLen) (hl:bp T.nm=true) (hm:¬(T.len:Int) < co T.k) (hn:¬cD T.k < (T.len:Int)):
  Calls prog 109 #[pv T] w fun e w'=>e=.returned (.int .i64 (bI T))∧Below w.heap.size w w':=by
 unfold pv;have HE:Hid (bI T=0):=ab (by unfold bI;rw[ac h,ac (by omega),ac (by omega),ac (by omega),ac (by rw[hl];simp),ac (fun h=>h.elim hm hn)])
 rw[aa HE];obtain⟨K,hK⟩:∃K:Nat,T.k=(K:Int):=⟨T.k.toNat,by omega⟩
 obtain⟨s0,s1,s2,s3⟩:=hS K (by omega) (by omega)
 have hz:1 < w.heap.size:=de _ _ s0;have hz':¬w.heap.size=1:=by omega
 rw[←hK,hh] at s1;rw[←hK] at s2 s3;have h1:¬(K:Int) < 1:=by omega
 have h2:¬24 < (K:Int):=by omega
 have HN:=ab (And.intro hN hl);clear hN hl;clear hS h hh HE;generalize co T.k=least at *;generalize cD T.k=most at *;rw[hK];clear hK;go_enter func109,ntmps109;go_wp2_with (go_at_call 30;refine(qj _ _ (aa HN).1).mono ?_;rintro e w1 ⟨rfl,rfl⟩;rw[(aa HN).2]);go_ret;exact⟨rfl,(ba _).alloc (by simp) _⟩
theorem Iy (T:PT) (w:World) (hS:dI w) (h:¬(T.k < 1∨24 < T.k)) (hh:aE T.k=0) (hn:(T.len:Int) < co T.k):
  Calls prog 109 #[pv T] w fun e w'=>e=.returned (.int .i64 (bI T))∧Below w.heap.size w w':=by
 unfold pv;have HE:Hid (bI T=5):=ab (by unfold bI;rw[ac h,ac (by omega),ac (by omega),ac (by omega),ac (by omega),af (.inl hn)])
 rw[aa HE];obtain⟨K,hK⟩:∃K:Nat,T.k=(K:Int):=⟨T.k.toNat,by omega⟩
 obtain⟨s0,s1,s2,s3⟩:=hS K (by omega) (by omega)
 have hz:1 < w.heap.size:=de _ _ s0;have hz':¬w.heap.size=1:=by omega
 rw[←hK,hh] at s1;rw[←hK] at s2 s3;have h1:¬(K:Int) < 1:=by omega
 have h2:¬24 < (K:Int):=by omega
 clear hS h hh HE;generalize co T.k=least at *;generalize cD T.k=most at *;rw[hK];clear hK;go_enter func109,ntmps109;go_wp2_with fail;go_ret;exact⟨rfl,(ba _).alloc (by simp) _⟩
theorem Iz (T:PT) (w:World) (hS:dI w) (h:¬(T.k < 1∨24 < T.k)) (hh:aE T.k=0) (hm:¬(T.len:Int) < co T.k) (hn:cD T.k < (T.len:Int)):
  Calls prog 109 #[pv T] w fun e w'=>e=.returned (.int .i64 (bI T))∧Below w.heap.size w w':=by
 unfold pv;have HE:Hid (bI T=5):=ab (by unfold bI;rw[ac h,ac (by omega),ac (by omega),ac (by omega),ac (by omega),af (.inr hn)])
 rw[aa HE];obtain⟨K,hK⟩:∃K:Nat,T.k=(K:Int):=⟨T.k.toNat,by omega⟩
 obtain⟨s0,s1,s2,s3⟩:=hS K (by omega) (by omega)
 have hz:1 < w.heap.size:=de _ _ s0;have hz':¬w.heap.size=1:=by omega
 rw[←hK,hh] at s1;rw[←hK] at s2 s3;have h1:¬(K:Int) < 1:=by omega
 have h2:¬24 < (K:Int):=by omega
 clear hS h hh HE;generalize co T.k=least at *;generalize cD T.k=most at *;rw[hK];clear hK;go_enter func109,ntmps109;go_wp2_with fail;go_ret;exact⟨rfl,(ba _).alloc (by simp) _⟩
theorem Ix (T:PT) (w:World) (hS:dI w) (h:¬(T.k < 1∨24 < T.k)) (hh:aE T.k=0) (hm:¬(T.len:Int) < co T.k) (hn:¬cD T.k < (T.len:Int)):
  Calls prog 109 #[pv T] w fun e w'=>e=.returned (.int .i64 (bI T))∧Below w.heap.size w w':=by
 unfold pv;have HE:Hid (bI T=0):=ab (by unfold bI;rw[ac h,ac (by omega),ac (by omega),ac (by omega),ac (by omega),ac (fun h=>h.elim hm hn)])
 rw[aa HE];obtain⟨K,hK⟩:∃K:Nat,T.k=(K:Int):=⟨T.k.toNat,by omega⟩
 obtain⟨s0,s1,s2,s3⟩:=hS K (by omega) (by omega)
 have hz:1 < w.heap.size:=de _ _ s0;have hz':¬w.heap.size=1:=by omega
 rw[←hK,hh] at s1;rw[←hK] at s2 s3;have h1:¬(K:Int) < 1:=by omega
 have h2:¬24 < (K:Int):=by omega
 clear hS h hh HE;generalize co T.k=least at *;generalize cD T.k=most at *;rw[hK];clear hK;go_enter func109,ntmps109;go_wp2_with fail;go_ret;exact⟨rfl,(ba _).alloc (by simp) _⟩
theorem LH (T:PT) (w:World) (hT:T.In w) (hS:dI w):
  Calls prog 109 #[pv T] w fun e w'=>e=.returned (.int .i64 (bI T))∧Below w.heap.size w w':=by
 by_cases h:T.k < 1∨24 < T.k
 ·exact J6 T w h
 rcases DQ T.k with hh | hh | hh | hh
 ·by_cases hm:(T.len:Int) < co T.k
  ·exact Iy T w hS h hh hm
  ·by_cases hn:cD T.k < (T.len:Int)
   ·exact Iz T w hS h hh hm hn
   ·exact Ix T w hS h hh hm hn
 ·by_cases hl:65536 < T.t.size
  ·exact J4 T w hS h hh hl
  ·by_cases hk:T.k=1
   ·by_cases hm:(T.len:Int) < co T.k
    ·exact IE T w hS h hh (by omega) hk hm
    ·by_cases hn:cD T.k < (T.len:Int)
     ·exact IF T w hS h hh (by omega) hk hm hn
     ·exact ID T w hS h hh (by omega) hk hm hn
   ·by_cases h0:T.t.size=0
    ·exact Jj T w hS h hh hk h0
    ·by_cases hm:(T.len:Int) < co T.k
     ·exact Ib T w hS h hh (by omega) hk h0 hm
     ·by_cases hn:cD T.k < (T.len:Int)
      ·exact Ic T w hS h hh (by omega) hk h0 hm hn
      ·exact Ia T w hS h hh (by omega) hk h0 hm hn
 ·by_cases hl:T.n < 0
  ·exact LG T w hS h hh hl
  ·by_cases hk:65536 < T.n
   ·exact J7 T w hS h hh hk
   ·by_cases hm:(T.len:Int) < co T.k
    ·exact Iv T w hS h hh (by omega) (by omega) hm
    ·by_cases hn:cD T.k < (T.len:Int)
     ·exact Iw T w hS h hh (by omega) (by omega) hm hn
     ·exact Iu T w hS h hh (by omega) (by omega) hm hn
 ·cases hl:bp T.nm
  ·exact J5 T w hS h hh hT.name hl
  ·by_cases hm:(T.len:Int) < co T.k
   ·exact IB T w hS h hh hT.name hl hm
   ·by_cases hn:cD T.k < (T.len:Int)
    ·exact IC T w hS h hh hT.name hl hm hn
    ·exact IA T w hS h hh hT.name hl hm hn
end Go.Proofs.YtlmnjbipfacniaaGreatDoor
