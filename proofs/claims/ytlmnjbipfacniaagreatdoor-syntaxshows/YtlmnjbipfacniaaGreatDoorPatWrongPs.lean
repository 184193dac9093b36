/- What pats.wrongNode, wrongBelow and Wrong do, for every patt -/
import Derived.Test.YtlmnjbipfacniaaGreatDoorPatSizePs
set_option maxRecDepth 100000
set_option maxHeartbeats 1000000
namespace Go.Proofs.YtlmnjbipfacniaaGreatDoor
open Go.Proofs.Tryz
open Go.RowKit
def CY:List ByteArray:=[⟨#[]⟩,⟨#[]⟩,⟨#[76,69,78]⟩,⟨#[65,78,89]⟩,⟨#[78,79,84,65,78,89]⟩,⟨#[83,80,65,78]⟩,⟨#[66,82,69,65,75]⟩,⟨#[66,82,69,65,75,88]⟩,⟨#[84,65,66]⟩,⟨#[82,84,65,66]⟩,⟨#[80,79,83]⟩,⟨#[82,80,79,83]⟩,⟨#[82,69,77]⟩,⟨#[65,82,66]⟩,⟨#[66,65,76]⟩,⟨#[70,65,73,76]⟩,⟨#[70,69,78,67,69]⟩,⟨#[65,66,79,82,84]⟩,⟨#[]⟩,⟨#[]⟩,⟨#[65,82,66,78,79]⟩,⟨#[]⟩,⟨#[]⟩,⟨#[]⟩,⟨#[]⟩]
def aT (K:Nat):ByteArray:=CY.getD K ByteArray.empty
def dA (w:World):Prop:=∀K,1≤K→K≤24→w.cell? ⟨1,K * 4,none⟩=some (.string (aT K))∧w.cell? ⟨1,K * 4+1,none⟩=some (.int .i64 (aO K))∧w.cell? ⟨1,K * 4+2,none⟩=some (.int .i64 (cK K))∧w.cell? ⟨1,K * 4+3,none⟩=some (.int .i64 (cM K))
theorem dA.later {w w':World} (h:dA w) (hb:Below w.heap.size w w'):dA w':=fun K h1 h2=>by
 obtain⟨a,b,c,d⟩:=h K h1 h2;exact⟨av hb a,av hb b,av hb c,av hb d⟩
theorem Dy (K:Int):aO K=0∨aO K=1∨aO K=2∨aO K=3:=by unfold aO;split <;> (try split) <;> (try split) <;> simp
theorem JJ (T:PT) (w:World) (h:T.k < 1∨24 < T.k):
  Calls prog 109 #[pv T] w fun e w'=>e=.returned (.int .i64 (bM T))∧Below w.heap.size w w':=by
 unfold pv;have HE:Hid (bM T=1):=ab (by unfold bM;rw[af h])
 rw[aa HE];rcases h with h | h
 ·go_enter func109,ntmps109
  go_wp2_with fail;go_ret;exact⟨rfl,ba _⟩
 ·have h1:¬T.k < 1:=by omega
  go_enter func109,ntmps109;go_wp2_with fail;go_ret;exact⟨rfl,ba _⟩
theorem JH (T:PT) (w:World) (hS:dA w) (h:¬(T.k < 1∨24 < T.k)) (hh:aO T.k=1) (hl:65536 < T.t.size):
  Calls prog 109 #[pv T] w fun e w'=>e=.returned (.int .i64 (bM T))∧Below w.heap.size w w':=by
 unfold pv;have HE:Hid (bM T=4):=ab (by unfold bM;rw[ac h,af ⟨hh,hl⟩])
 rw[aa HE];obtain⟨K,hK⟩:∃K:Nat,T.k=(K:Int):=⟨T.k.toNat,by omega⟩
 obtain⟨s0,s1,s2,s3⟩:=hS K (by omega) (by omega)
 have hz:1 < w.heap.size:=da _ _ s0;have hz':¬w.heap.size=1:=by omega
 rw[←hK,hh] at s1;rw[←hK] at s2 s3;have h1:¬(K:Int) < 1:=by omega
 have h2:¬24 < (K:Int):=by omega
 have h3:65536 < (T.t.size:Int):=by omega
 clear hS h hh HE;generalize cK T.k=least at *;generalize cM T.k=most at *;rw[hK];clear hK;go_enter func109,ntmps109;go_wp2_with fail;go_ret;exact⟨rfl,(ba _).alloc (by simp) _⟩
theorem IV (T:PT) (w:World) (hS:dA w) (h:¬(T.k < 1∨24 < T.k)) (hh:aO T.k=1) (hk:T.k≠1) (hl:T.t.size=0):
  Calls prog 109 #[pv T] w fun e w'=>e=.returned (.int .i64 (bM T))∧Below w.heap.size w w':=by
 unfold pv;have HE:Hid (bM T=8):=ab (by unfold bM;rw[ac h,ac (by omega),af ⟨hh,hk,hl⟩])
 rw[aa HE];obtain⟨K,hK⟩:∃K:Nat,T.k=(K:Int):=⟨T.k.toNat,by omega⟩
 obtain⟨s0,s1,s2,s3⟩:=hS K (by omega) (by omega)
 have hz:1 < w.heap.size:=da _ _ s0;have hz':¬w.heap.size=1:=by omega
 rw[←hK,hh] at s1;rw[←hK] at s2 s3;have h1:¬(K:Int) < 1:=by omega
 have h2:¬24 < (K:Int):=by omega
 have h3:¬65536 < (T.t.size:Int):=by omega
 have h4:=AM T.t hl;have h5:((K:Int) !=1)=true:=by rw[sf];omega
 rw[hK] at hk;clear hS h hh HE;generalize cK T.k=least at *;generalize cM T.k=most at *;rw[hK];clear hK;go_enter func109,ntmps109;go_wp2_with fail;go_ret;exact⟨rfl,(ba _).alloc (by simp) _⟩
theorem Ld (T:PT) (w:World) (hS:dA w) (h:¬(T.k < 1∨24 < T.k)) (hh:aO T.k=2) (hl:T.n < 0):
  Calls prog 109 #[pv T] w fun e w'=>e=.returned (.int .i64 (bM T))∧Below w.heap.size w w':=by
 unfold pv;have HE:Hid (bM T=3):=ab (by unfold bM;rw[ac h,ac (by omega),ac (by omega),af ⟨hh,.inl hl⟩])
 rw[aa HE];obtain⟨K,hK⟩:∃K:Nat,T.k=(K:Int):=⟨T.k.toNat,by omega⟩
 obtain⟨s0,s1,s2,s3⟩:=hS K (by omega) (by omega)
 have hz:1 < w.heap.size:=da _ _ s0;have hz':¬w.heap.size=1:=by omega
 rw[←hK,hh] at s1;rw[←hK] at s2 s3;have h1:¬(K:Int) < 1:=by omega
 have h2:¬24 < (K:Int):=by omega
 have h3:T.n < 0:=hl;clear hS h hh HE;generalize cK T.k=least at *;generalize cM T.k=most at *;rw[hK];clear hK;go_enter func109,ntmps109;go_wp2_with fail;go_ret;exact⟨rfl,(ba _).alloc (by simp) _⟩
theorem JK (T:PT) (w:World) (hS:dA w) (h:¬(T.k < 1∨24 < T.k)) (hh:aO T.k=2) (hl:65536 < T.n):
  Calls prog 109 #[pv T] w fun e w'=>e=.returned (.int .i64 (bM T))∧Below w.heap.size w w':=by
 unfold pv;have HE:Hid (bM T=3):=ab (by unfold bM;rw[ac h,ac (by omega),ac (by omega),af ⟨hh,.inr hl⟩])
 rw[aa HE];obtain⟨K,hK⟩:∃K:Nat,T.k=(K:Int):=⟨T.k.toNat,by omega⟩
 obtain⟨s0,s1,s2,s3⟩:=hS K (by omega) (by omega)
 have hz:1 < w.heap.size:=da _ _ s0;have hz':¬w.heap.size=1:=by omega
 rw[←hK,hh] at s1;rw[←hK] at s2 s3;have h1:¬(K:Int) < 1:=by omega
 have h2:¬24 < (K:Int):=by omega
 have h3:¬T.n < 0:=by omega
 clear hS h hh HE;generalize cK T.k=least at *;generalize cM T.k=most at *;rw[hK];clear hK;go_enter func109,ntmps109;go_wp2_with fail;go_ret;exact⟨rfl,(ba _).alloc (by simp) _⟩
theorem JI (T:PT) (w:World) (hS:dA w) (h:¬(T.k < 1∨24 < T.k)) (hh:aO T.k=3) (hN:T.nm.size≤maxLen) (hl:ca T.nm=false):
  Calls prog 109 #[pv T] w fun e w'=>e=.returned (.int .i64 (bM T))∧Below w.heap.size w w':=by
 unfold pv;have HE:Hid (bM T=7):=ab (by unfold bM;rw[ac h,ac (by omega),ac (by omega),ac (by omega),af ⟨hh,hl⟩])
 rw[aa HE];obtain⟨K,hK⟩:∃K:Nat,T.k=(K:Int):=⟨T.k.toNat,by omega⟩
 obtain⟨s0,s1,s2,s3⟩:=hS K (by omega) (by omega)
 have hz:1 < w.heap.size:=da _ _ s0;have hz':¬w.heap.size=1:=by omega
 rw[←hK,hh] at s1;rw[←hK] at s2 s3;have h1:¬(K:Int) < 1:=by omega
 have h2:¬24 < (K:Int):=by omega
 have HN:=ab (And.intro hN hl);clear hN hl;clear hS h hh HE;generalize cK T.k=least at *;generalize cM T.k=most at *;rw[hK];clear hK;go_enter func109,ntmps109;go_wp2_with (go_at_call 30;refine(qF _ _ (aa HN).1).mono ?_;rintro e w1 ⟨rfl,rfl⟩;rw[(aa HN).2]);go_ret;exact⟨rfl,(ba _).alloc (by simp) _⟩
theorem Ib (T:PT) (w:World) (hS:dA w) (h:¬(T.k < 1∨24 < T.k)) (hh:aO T.k=1) (hl:T.t.size≤65536) (hk:T.k=1) (hn:(T.len:Int) < cK T.k):
  Calls prog 109 #[pv T] w fun e w'=>e=.returned (.int .i64 (bM T))∧Below w.heap.size w w':=by
 unfold pv;have HE:Hid (bM T=5):=ab (by unfold bM;rw[ac h,ac (by omega),ac (by omega),ac (by omega),ac (by omega),af (.inl hn)])
 rw[aa HE];obtain⟨K,hK⟩:∃K:Nat,T.k=(K:Int):=⟨T.k.toNat,by omega⟩
 obtain⟨s0,s1,s2,s3⟩:=hS K (by omega) (by omega)
 have hz:1 < w.heap.size:=da _ _ s0;have hz':¬w.heap.size=1:=by omega
 rw[←hK,hh] at s1;rw[←hK] at s2 s3;have h1:¬(K:Int) < 1:=by omega
 have h2:¬24 < (K:Int):=by omega
 have h3:¬65536 < (T.t.size:Int):=by omega
 have h5:((K:Int) !=1)=false:=by rw[bne_eq_false_iff_eq];omega
 clear hk;clear hS h hh HE;generalize cK T.k=least at *;generalize cM T.k=most at *;rw[hK];clear hK;go_enter func109,ntmps109;go_wp2_with fail;go_ret;exact⟨rfl,(ba _).alloc (by simp) _⟩
theorem Ic (T:PT) (w:World) (hS:dA w) (h:¬(T.k < 1∨24 < T.k)) (hh:aO T.k=1) (hl:T.t.size≤65536) (hk:T.k=1) (hm:¬(T.len:Int) < cK T.k) (hn:cM T.k < (T.len:Int)):
  Calls prog 109 #[pv T] w fun e w'=>e=.returned (.int .i64 (bM T))∧Below w.heap.size w w':=by
 unfold pv;have HE:Hid (bM T=5):=ab (by unfold bM;rw[ac h,ac (by omega),ac (by omega),ac (by omega),ac (by omega),af (.inr hn)])
 rw[aa HE];obtain⟨K,hK⟩:∃K:Nat,T.k=(K:Int):=⟨T.k.toNat,by omega⟩
 obtain⟨s0,s1,s2,s3⟩:=hS K (by omega) (by omega)
 have hz:1 < w.heap.size:=da _ _ s0;have hz':¬w.heap.size=1:=by omega
 rw[←hK,hh] at s1;rw[←hK] at s2 s3;have h1:¬(K:Int) < 1:=by omega
 have h2:¬24 < (K:Int):=by omega
 have h3:¬65536 < (T.t.size:Int):=by omega
 have h5:((K:Int) !=1)=false:=by rw[bne_eq_false_iff_eq];omega
 clear hk;clear hS h hh HE;generalize cK T.k=least at *;generalize cM T.k=most at *;rw[hK];clear hK;go_enter func109,ntmps109;go_wp2_with fail;go_ret;exact⟨rfl,(ba _).alloc (by simp) _⟩
theorem Ia (T:PT) (w:World) (hS:dA w) (h:¬(T.k < 1∨24 < T.k)) (hh:aO T.k=1) (hl:T.t.size≤65536) (hk:T.k=1) (hm:¬(T.len:Int) < cK T.k) (hn:¬cM T.k < (T.len:Int)):
  Calls prog 109 #[pv T] w fun e w'=>e=.returned (.int .i64 (bM T))∧Below w.heap.size w w':=by
 unfold pv;have HE:Hid (bM T=0):=ab (by unfold bM;rw[ac h,ac (by omega),ac (by omega),ac (by omega),ac (by omega),ac (fun h=>h.elim hm hn)])
 rw[aa HE];obtain⟨K,hK⟩:∃K:Nat,T.k=(K:Int):=⟨T.k.toNat,by omega⟩
 obtain⟨s0,s1,s2,s3⟩:=hS K (by omega) (by omega)
 have hz:1 < w.heap.size:=da _ _ s0;have hz':¬w.heap.size=1:=by omega
 rw[←hK,hh] at s1;rw[←hK] at s2 s3;have h1:¬(K:Int) < 1:=by omega
 have h2:¬24 < (K:Int):=by omega
 have h3:¬65536 < (T.t.size:Int):=by omega
 have h5:((K:Int) !=1)=false:=by rw[bne_eq_false_iff_eq];omega
 clear hk;clear hS h hh HE;generalize cK T.k=least at *;generalize cM T.k=most at *;rw[hK];clear hK;go_enter func109,ntmps109;go_wp2_with fail;go_ret;exact⟨rfl,(ba _).alloc (by simp) _⟩
theorem G8 (T:PT) (w:World) (hS:dA w) (h:¬(T.k < 1∨24 < T.k)) (hh:aO T.k=1) (hl:T.t.size≤65536) (hk:T.k≠1) (h0:T.t.size≠0) (hn:(T.len:Int) < cK T.k):
  Calls prog 109 #[pv T] w fun e w'=>e=.returned (.int .i64 (bM T))∧Below w.heap.size w w':=by
 unfold pv;have HE:Hid (bM T=5):=ab (by unfold bM;rw[ac h,ac (by omega),ac (by omega),ac (by omega),ac (by omega),af (.inl hn)])
 rw[aa HE];obtain⟨K,hK⟩:∃K:Nat,T.k=(K:Int):=⟨T.k.toNat,by omega⟩
 obtain⟨s0,s1,s2,s3⟩:=hS K (by omega) (by omega)
 have hz:1 < w.heap.size:=da _ _ s0;have hz':¬w.heap.size=1:=by omega
 rw[←hK,hh] at s1;rw[←hK] at s2 s3;have h1:¬(K:Int) < 1:=by omega
 have h2:¬24 < (K:Int):=by omega
 have h3:¬65536 < (T.t.size:Int):=by omega
 have h4:=xG T.t h0;have h5:((K:Int) !=1)=true:=by rw[sf];omega
 clear hk;clear hS h hh HE;generalize cK T.k=least at *;generalize cM T.k=most at *;rw[hK];clear hK;go_enter func109,ntmps109;go_wp2_with fail;go_ret;exact⟨rfl,(ba _).alloc (by simp) _⟩
theorem G9 (T:PT) (w:World) (hS:dA w) (h:¬(T.k < 1∨24 < T.k)) (hh:aO T.k=1) (hl:T.t.size≤65536) (hk:T.k≠1) (h0:T.t.size≠0) (hm:¬(T.len:Int) < cK T.k) (hn:cM T.k < (T.len:Int)):
  Calls prog 109 #[pv T] w fun e w'=>e=.returned (.int .i64 (bM T))∧Below w.heap.size w w':=by
 unfold pv;have HE:Hid (bM T=5):=ab (by unfold bM;rw[ac h,ac (by omega),ac (by omega),ac (by omega),ac (by omega),af (.inr hn)])
 rw[aa HE];obtain⟨K,hK⟩:∃K:Nat,T.k=(K:Int):=⟨T.k.toNat,by omega⟩
 obtain⟨s0,s1,s2,s3⟩:=hS K (by omega) (by omega)
 have hz:1 < w.heap.size:=da _ _ s0;have hz':¬w.heap.size=1:=by omega
 rw[←hK,hh] at s1;rw[←hK] at s2 s3;have h1:¬(K:Int) < 1:=by omega
 have h2:¬24 < (K:Int):=by omega
 have h3:¬65536 < (T.t.size:Int):=by omega
 have h4:=xG T.t h0;have h5:((K:Int) !=1)=true:=by rw[sf];omega
 clear hk;clear hS h hh HE;generalize cK T.k=least at *;generalize cM T.k=most at *;rw[hK];clear hK;go_enter func109,ntmps109;go_wp2_with fail;go_ret;exact⟨rfl,(ba _).alloc (by simp) _⟩
theorem G7 (T:PT) (w:World) (hS:dA w) (h:¬(T.k < 1∨24 < T.k)) (hh:aO T.k=1) (hl:T.t.size≤65536) (hk:T.k≠1) (h0:T.t.size≠0) (hm:¬(T.len:Int) < cK T.k) (hn:¬cM T.k < (T.len:Int)):
  Calls prog 109 #[pv T] w fun e w'=>e=.returned (.int .i64 (bM T))∧Below w.heap.size w w':=by
 unfold pv;have HE:Hid (bM T=0):=ab (by unfold bM;rw[ac h,ac (by omega),ac (by omega),ac (by omega),ac (by omega),ac (fun h=>h.elim hm hn)])
 rw[aa HE];obtain⟨K,hK⟩:∃K:Nat,T.k=(K:Int):=⟨T.k.toNat,by omega⟩
 obtain⟨s0,s1,s2,s3⟩:=hS K (by omega) (by omega)
 have hz:1 < w.heap.size:=da _ _ s0;have hz':¬w.heap.size=1:=by omega
 rw[←hK,hh] at s1;rw[←hK] at s2 s3;have h1:¬(K:Int) < 1:=by omega
 have h2:¬24 < (K:Int):=by omega
 have h3:¬65536 < (T.t.size:Int):=by omega
 have h4:=xG T.t h0;have h5:((K:Int) !=1)=true:=by rw[sf];omega
 clear hk;clear hS h hh HE;generalize cK T.k=least at *;generalize cM T.k=most at *;rw[hK];clear hK;go_enter func109,ntmps109;go_wp2_with fail;go_ret;exact⟨rfl,(ba _).alloc (by simp) _⟩
theorem Hs (T:PT) (w:World) (hS:dA w) (h:¬(T.k < 1∨24 < T.k)) (hh:aO T.k=2) (hl:0≤T.n) (hk:T.n≤65536) (hn:(T.len:Int) < cK T.k):
  Calls prog 109 #[pv T] w fun e w'=>e=.returned (.int .i64 (bM T))∧Below w.heap.size w w':=by
 unfold pv;have HE:Hid (bM T=5):=ab (by unfold bM;rw[ac h,ac (by omega),ac (by omega),ac (by omega),ac (by omega),af (.inl hn)])
 rw[aa HE];obtain⟨K,hK⟩:∃K:Nat,T.k=(K:Int):=⟨T.k.toNat,by omega⟩
 obtain⟨s0,s1,s2,s3⟩:=hS K (by omega) (by omega)
 have hz:1 < w.heap.size:=da _ _ s0;have hz':¬w.heap.size=1:=by omega
 rw[←hK,hh] at s1;rw[←hK] at s2 s3;have h1:¬(K:Int) < 1:=by omega
 have h2:¬24 < (K:Int):=by omega
 have h3:¬T.n < 0:=by omega
 have h4:¬65536 < T.n:=by omega
 clear hS h hh HE;generalize cK T.k=least at *;generalize cM T.k=most at *;rw[hK];clear hK;go_enter func109,ntmps109;go_wp2_with fail;go_ret;exact⟨rfl,(ba _).alloc (by simp) _⟩
theorem Ht (T:PT) (w:World) (hS:dA w) (h:¬(T.k < 1∨24 < T.k)) (hh:aO T.k=2) (hl:0≤T.n) (hk:T.n≤65536) (hm:¬(T.len:Int) < cK T.k) (hn:cM T.k < (T.len:Int)):
  Calls prog 109 #[pv T] w fun e w'=>e=.returned (.int .i64 (bM T))∧Below w.heap.size w w':=by
 unfold pv;have HE:Hid (bM T=5):=ab (by unfold bM;rw[ac h,ac (by omega),ac (by omega),ac (by omega),ac (by omega),af (.inr hn)])
 rw[aa HE];obtain⟨K,hK⟩:∃K:Nat,T.k=(K:Int):=⟨T.k.toNat,by omega⟩
 obtain⟨s0,s1,s2,s3⟩:=hS K (by omega) (by omega)
 have hz:1 < w.heap.size:=da _ _ s0;have hz':¬w.heap.size=1:=by omega
 rw[←hK,hh] at s1;rw[←hK] at s2 s3;have h1:¬(K:Int) < 1:=by omega
 have h2:¬24 < (K:Int):=by omega
 have h3:¬T.n < 0:=by omega
 have h4:¬65536 < T.n:=by omega
 clear hS h hh HE;generalize cK T.k=least at *;generalize cM T.k=most at *;rw[hK];clear hK;go_enter func109,ntmps109;go_wp2_with fail;go_ret;exact⟨rfl,(ba _).alloc (by simp) _⟩
theorem Hr (T:PT) (w:World) (hS:dA w) (h:¬(T.k < 1∨24 < T.k)) (hh:aO T.k=2) (hl:0≤T.n) (hk:T.n≤65536) (hm:¬(T.len:Int) < cK T.k) (hn:¬cM T.k < (T.len:Int)):
  Calls prog 109 #[pv T] w fun e w'=>e=.returned (.int .i64 (bM T))∧Below w.heap.size w w':=by
 unfold pv;have HE:Hid (bM T=0):=ab (by unfold bM;rw[ac h,ac (by omega),ac (by omega),ac (by omega),ac (by omega),ac (fun h=>h.elim hm hn)])
 rw[aa HE];obtain⟨K,hK⟩:∃K:Nat,T.k=(K:Int):=⟨T.k.toNat,by omega⟩
 obtain⟨s0,s1,s2,s3⟩:=hS K (by omega) (by omega)
 have hz:1 < w.heap.size:=da _ _ s0;have hz':¬w.heap.size=1:=by omega
 rw[←hK,hh] at s1;rw[←hK] at s2 s3;have h1:¬(K:Int) < 1:=by omega
 have h2:¬24 < (K:Int):=by omega
 have h3:¬T.n < 0:=by omega
 have h4:¬65536 < T.n:=by omega
 clear hS h hh HE;generalize cK T.k=least at *;generalize cM T.k=most at *;rw[hK];clear hK;go_enter func109,ntmps109;go_wp2_with fail;go_ret;exact⟨rfl,(ba _).alloc (by simp) _⟩
theorem Hy (T:PT) (w:World) (hS:dA w) (h:¬(T.k < 1∨24 < T.k)) (hh:aO T.k=3) (hN:T.nm.size≤maxLen) (hl:ca T.nm=true) (hn:(T.len:Int) < cK T.k):
  Calls prog 109 #[pv T] w fun e w'=>e=.returned (.int .i64 (bM T))∧Below w.heap.size w w':=by
 unfold pv;have HE:Hid (bM T=5):=ab (by unfold bM;rw[ac h,ac (by omega),ac (by omega),ac (by omega),ac (by rw[hl];simp),af (.inl hn)])
 rw[aa HE];obtain⟨K,hK⟩:∃K:Nat,T.k=(K:Int):=⟨T.k.toNat,by omega⟩
 obtain⟨s0,s1,s2,s3⟩:=hS K (by omega) (by omega)
 have hz:1 < w.heap.size:=da _ _ s0;have hz':¬w.heap.size=1:=by omega
 rw[←hK,hh] at s1;rw[←hK] at s2 s3;have h1:¬(K:Int) < 1:=by omega
 have h2:¬24 < (K:Int):=by omega
 have HN:=ab (And.intro hN hl);clear hN hl;clear hS h hh HE;generalize cK T.k=least at *;generalize cM T.k=most at *;rw[hK];clear hK;go_enter func109,ntmps109;go_wp2_with (go_at_call 30;refine(qF _ _ (aa HN).1).mono ?_;rintro e w1 ⟨rfl,rfl⟩;rw[(aa HN).2]);go_ret;exact⟨rfl,(ba _).alloc (by simp) _⟩
theorem Hz (T:PT) (w:World) (hS:dA w) (h:¬(T.k < 1∨24 < T.k)) (hh:aO T.k=3) (hN:T.nm.size≤maxLen) (hl:ca T.nm=true) (hm:¬(T.len:Int) < cK T.k) (hn:cM T.k < (T.len:Int)):
  Calls prog 109 #[pv T] w fun e w'=>e=.returned (.int .i64 (bM T))∧Below w.heap.size w w':=by
 unfold pv;have HE:Hid (bM T=5):=ab (by unfold bM;rw[ac h,ac (by omega),ac (by omega),ac (by omega),ac (by rw[hl];simp),af (.inr hn)])
 rw[aa HE];obtain⟨K,hK⟩:∃K:Nat,T.k=(K:Int):=⟨T.k.toNat,by omega⟩
 obtain⟨s0,s1,s2,s3⟩:=hS K (by omega) (by omega)
 have hz:1 < w.heap.size:=da _ _ s0;have hz':¬w.heap.size=1:=by omega
 rw[←hK,hh] at s1;rw[←hK] at s2 s3;have h1:¬(K:Int) < 1:=by omega
 have h2:¬24 < (K:Int):=by omega
 have HN:=ab (And.intro hN hl);clear hN hl;clear hS h hh HE;generalize cK T.k=least at *;generalize cM T.k=most at *;rw[hK];clear hK;go_enter func109,ntmps109;go_wp2_with (go_at_call 30;refine(qF _ _ (aa HN).1).mono ?_;rintro e w1 ⟨rfl,rfl⟩;rw[(aa HN).2]);go_ret;exact⟨rfl,(ba _).alloc (by simp) _⟩
theorem Hx (T:PT) (w:World) (hS:dA w) (h:¬(T.k < 1∨24 < T.k)) (hh:aO T.k=3) (hN:T.nm.size≤maxLen) (hl:ca T.nm=true) (hm:¬(T.len:Int) < cK T.k) (hn:¬cM T.k < (T.len:Int)):
  Calls prog 109 #[pv T] w fun e w'=>e=.returned (.int .i64 (bM T))∧Below w.heap.size w w':=by
 unfold pv;have HE:Hid (bM T=0):=ab (by unfold bM;rw[ac h,ac (by omega),ac (by omega),ac (by omega),ac (by rw[hl];simp),ac (fun h=>h.elim hm hn)])
 rw[aa HE];obtain⟨K,hK⟩:∃K:Nat,T.k=(K:Int):=⟨T.k.toNat,by omega⟩
 obtain⟨s0,s1,s2,s3⟩:=hS K (by omega) (by omega)
 have hz:1 < w.heap.size:=da _ _ s0;have hz':¬w.heap.size=1:=by omega
 rw[←hK,hh] at s1;rw[←hK] at s2 s3;have h1:¬(K:Int) < 1:=by omega
 have h2:¬24 < (K:Int):=by omega
 have HN:=ab (And.intro hN hl);clear hN hl;clear hS h hh HE;generalize cK T.k=least at *;generalize cM T.k=most at *;rw[hK];clear hK;go_enter func109,ntmps109;go_wp2_with (go_at_call 30;refine(qF _ _ (aa HN).1).mono ?_;rintro e w1 ⟨rfl,rfl⟩;rw[(aa HN).2]);go_ret;exact⟨rfl,(ba _).alloc (by simp) _⟩
theorem Hv (T:PT) (w:World) (hS:dA w) (h:¬(T.k < 1∨24 < T.k)) (hh:aO T.k=0) (hn:(T.len:Int) < cK T.k):
  Calls prog 109 #[pv T] w fun e w'=>e=.returned (.int .i64 (bM T))∧Below w.heap.size w w':=by
 unfold pv;have HE:Hid (bM T=5):=ab (by unfold bM;rw[ac h,ac (by omega),ac (by omega),ac (by omega),ac (by omega),af (.inl hn)])
 rw[aa HE];obtain⟨K,hK⟩:∃K:Nat,T.k=(K:Int):=⟨T.k.toNat,by omega⟩
 obtain⟨s0,s1,s2,s3⟩:=hS K (by omega) (by omega)
 have hz:1 < w.heap.size:=da _ _ s0;have hz':¬w.heap.size=1:=by omega
 rw[←hK,hh] at s1;rw[←hK] at s2 s3;have h1:¬(K:Int) < 1:=by omega
 have h2:¬24 < (K:Int):=by omega
 clear hS h hh HE;generalize cK T.k=least at *;generalize cM T.k=most at *;rw[hK];clear hK;go_enter func109,ntmps109;go_wp2_with fail;go_ret;exact⟨rfl,(ba _).alloc (by simp) _⟩
theorem Hw (T:PT) (w:World) (hS:dA w) (h:¬(T.k < 1∨24 < T.k)) (hh:aO T.k=0) (hm:¬(T.len:Int) < cK T.k) (hn:cM T.k < (T.len:Int)):
  Calls prog 109 #[pv T] w fun e w'=>e=.returned (.int .i64 (bM T))∧Below w.heap.size w w':=by
 unfold pv;have HE:Hid (bM T=5):=ab (by unfold bM;rw[ac h,ac (by omega),ac (by omega),ac (by omega),ac (by omega),af (.inr hn)])
 rw[aa HE];obtain⟨K,hK⟩:∃K:Nat,T.k=(K:Int):=⟨T.k.toNat,by omega⟩
 obtain⟨s0,s1,s2,s3⟩:=hS K (by omega) (by omega)
 have hz:1 < w.heap.size:=da _ _ s0;have hz':¬w.heap.size=1:=by omega
 rw[←hK,hh] at s1;rw[←hK] at s2 s3;have h1:¬(K:Int) < 1:=by omega
 have h2:¬24 < (K:Int):=by omega
 clear hS h hh HE;generalize cK T.k=least at *;generalize cM T.k=most at *;rw[hK];clear hK;go_enter func109,ntmps109;go_wp2_with fail;go_ret;exact⟨rfl,(ba _).alloc (by simp) _⟩
theorem Hu (T:PT) (w:World) (hS:dA w) (h:¬(T.k < 1∨24 < T.k)) (hh:aO T.k=0) (hm:¬(T.len:Int) < cK T.k) (hn:¬cM T.k < (T.len:Int)):
  Calls prog 109 #[pv T] w fun e w'=>e=.returned (.int .i64 (bM T))∧Below w.heap.size w w':=by
 unfold pv;have HE:Hid (bM T=0):=ab (by unfold bM;rw[ac h,ac (by omega),ac (by omega),ac (by omega),ac (by omega),ac (fun h=>h.elim hm hn)])
 rw[aa HE];obtain⟨K,hK⟩:∃K:Nat,T.k=(K:Int):=⟨T.k.toNat,by omega⟩
 obtain⟨s0,s1,s2,s3⟩:=hS K (by omega) (by omega)
 have hz:1 < w.heap.size:=da _ _ s0;have hz':¬w.heap.size=1:=by omega
 rw[←hK,hh] at s1;rw[←hK] at s2 s3;have h1:¬(K:Int) < 1:=by omega
 have h2:¬24 < (K:Int):=by omega
 clear hS h hh HE;generalize cK T.k=least at *;generalize cM T.k=most at *;rw[hK];clear hK;go_enter func109,ntmps109;go_wp2_with fail;go_ret;exact⟨rfl,(ba _).alloc (by simp) _⟩
theorem Lf (T:PT) (w:World) (hT:T.In w) (hS:dA w):
  Calls prog 109 #[pv T] w fun e w'=>e=.returned (.int .i64 (bM T))∧Below w.heap.size w w':=by
 by_cases h:T.k < 1∨24 < T.k
 ·exact JJ T w h
 rcases Dy T.k with hh | hh | hh | hh
 ·by_cases hm:(T.len:Int) < cK T.k
  ·exact Hv T w hS h hh hm
  ·by_cases hn:cM T.k < (T.len:Int)
   ·exact Hw T w hS h hh hm hn
   ·exact Hu T w hS h hh hm hn
 ·by_cases hl:65536 < T.t.size
  ·exact JH T w hS h hh hl
  ·by_cases hk:T.k=1
   ·by_cases hm:(T.len:Int) < cK T.k
    ·exact Ib T w hS h hh (by omega) hk hm
    ·by_cases hn:cM T.k < (T.len:Int)
     ·exact Ic T w hS h hh (by omega) hk hm hn
     ·exact Ia T w hS h hh (by omega) hk hm hn
   ·by_cases h0:T.t.size=0
    ·exact IV T w hS h hh hk h0
    ·by_cases hm:(T.len:Int) < cK T.k
     ·exact G8 T w hS h hh (by omega) hk h0 hm
     ·by_cases hn:cM T.k < (T.len:Int)
      ·exact G9 T w hS h hh (by omega) hk h0 hm hn
      ·exact G7 T w hS h hh (by omega) hk h0 hm hn
 ·by_cases hl:T.n < 0
  ·exact Ld T w hS h hh hl
  ·by_cases hk:65536 < T.n
   ·exact JK T w hS h hh hk
   ·by_cases hm:(T.len:Int) < cK T.k
    ·exact Hs T w hS h hh (by omega) (by omega) hm
    ·by_cases hn:cM T.k < (T.len:Int)
     ·exact Ht T w hS h hh (by omega) (by omega) hm hn
     ·exact Hr T w hS h hh (by omega) (by omega) hm hn
 ·cases hl:ca T.nm
  ·exact JI T w hS h hh hT.name hl
  ·by_cases hm:(T.len:Int) < cK T.k
   ·exact Hy T w hS h hh hT.name hl hm
   ·by_cases hn:cM T.k < (T.len:Int)
    ·exact Hz T w hS h hh hT.name hl hm hn
    ·exact Hx T w hS h hh hT.name hl hm hn
end Go.Proofs.YtlmnjbipfacniaaGreatDoor
